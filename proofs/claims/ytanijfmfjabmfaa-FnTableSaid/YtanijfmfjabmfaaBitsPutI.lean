/- The text with a Value in it: the program's. Nothing that was there is written. -/
import Derived.Test.YtanijfmfjabmfaaBitsVal3
import Derived.Test.YtanijfmfjabmfaaBitsVal4
import Derived.Deep.RegionWith
namespace Go.Proofs.Ytanijfmfjabmfaa
open Go.RowKit
set_option linter.unusedVariables false
set_option maxRecDepth 100000 in
set_option maxHeartbeats 4000000 in
theorem implFieldPut_any (s : ByteArray) (a w : Int) (g : Bool) (k n : Int) (W : World) (hs : s.size ≤ maxLen) :
    Calls Try.prog 120 #[.string s, fdV a w g, vlV k n] W fun e W' => e = .returned (.string ⟨(fputI s a w g k n).toArray⟩) ∧ Below W.heap.size W W' := by
  have HFd := Lib.hid (twoF W a w g k n)
  have HVl := Lib.hid (twoV W a w g k n)
  have HB := Lib.hid (twoB W a w g k n)
  obtain ⟨O, hO⟩ : ∃ O, fputI s a w g k n = O := ⟨_, rfl⟩
  rw [hO]
  by_cases h : 8000 < s.size
  · have HO := Lib.hid (hO.symm.trans (fput_big h))
    have hd : decide (8000 < (s.size : Int)) = true := decide_eq_true (by omega)
    have HL := fun U => Lib.hid (tooLong_any s U hs)
    rw [hd] at HL
    clear hO
    unfold fdV vlV
    go_enter Try.func120, Try.ntmps120
    go_wp2_with fail
    refine ((HL _).out).mono ?_
    rintro e w' ⟨rfl, rfl⟩
    go_wp2
    go_ret
    exact ⟨by rw [HO.out]; rfl, HB.out⟩
  have hd : decide (8000 < (s.size : Int)) = false := decide_eq_false (by omega)
  have HL := fun U => Lib.hid (tooLong_any s U hs)
  rw [hd] at HL
  have HR := fun U => Lib.hid (implValueRight_any a w g k n U)
  have hs8 : s.size ≤ 1000000 := by omega
  have hz8 : ByteArray.empty.size ≤ 1000000 := by decide
  have hee : ByteArray.empty.data.toList ++ s.data.toList = s.data.toList := List.nil_append _
  have HJ := fun W => Lib.hid (joined_any ByteArray.empty s W hz8 hs8)
  rw [hee] at HJ
  rcases Bool.eq_false_or_eq_true (valB a w g k n) with h2 | h2
  · have hf := valB_field h2
    obtain ⟨_, _, hw1, hw2⟩ := fieldB_of hf
    obtain ⟨y, rfl⟩ : ∃ y : Nat, w = (y : Int) := ⟨w.toNat, by omega⟩
    have hb := bits_in h2
    have HM := fun U => Lib.hid (meant_any a y g k n U hf)
    have HS := fun U => Lib.hid (implPutBits_any s a y (bitsI y (tellI y g k n)) U hs)
    rw [fput_put h h2, hO] at HS
    have hmb := mask_bits hw1 hb.2.2.1 hb.2.2.2
    generalize tellI (y : Int) g k n = T at *
    generalize bitsI (y : Int) T = N at *
    have hp1 := powI_pos (y : Int)
    have hp2 := powI_le hw2
    have hp3 : -4294967296 ≤ T := by
      have := powI_le (w := (y : Int) - 1) (by omega)
      omega
    have hand : bits .and .i64 T (powI (y : Int) - 1) = N := (and_pow hw1 hw2 hp3 (by omega)).trans hmb
    have hT1 : T ≤ 4294967295 := by omega
    have hm64 : min y 64 = y := by omega
    have hp4 : wrap64 (powI (y : Int) - 1) = powI (y : Int) - 1 := IntWalk.wrap64_in _ (by omega)
    have hp5 : IntKind.i64.wrap (powI (y : Int) - 1) = powI (y : Int) - 1 := (IntWalk.i64_left _).trans hp4
    have hsh2 : IntKind.i64.wrap (2 ^ y) = powI (y : Int) := by
      have h1 := shl_pow (y : Int) (by omega) (by omega)
      have hm : min (y : Int).toNat 64 = y := by omega
      rw [hm, Int.one_mul] at h1
      exact h1
    generalize powI (y : Int) = p at *
    clear hO hmb hb
    unfold fdV vlV at *
    go_enter Try.func120, Try.ntmps120
    go_wp2_with fail
    refine ((HL _).out).mono ?_
    rintro e w' ⟨rfl, rfl⟩
    go_wp2_with fail
    refine ((HR _).out).mono ?_
    rintro e w1 ⟨rfl, hb1⟩
    have H1 := Lib.hid (hb1)
    clear hb1
    obtain ⟨y0, y1, y2⟩ := twoKept H1.out (by simp; omega) HFd.out
    obtain ⟨z0, z1⟩ := vlCells ((H1.out.block (W.heap.size + 1) (by simp)).trans HVl.out)
    go_wp2_with fail
    have hl1 : W.heap.size < w1.heap.size := by have := H1.out.size; simp at this; omega
    have hl2 : W.heap.size + 1 < w1.heap.size := by have := H1.out.size; simp at this; omega
    have HC0 := fun U (hU : Below w1.heap.size w1 U) => Lib.hid (fdCells ((hU.block W.heap.size hl1).trans ((H1.out.block W.heap.size (by simp; omega)).trans HFd.out)))
    have HC1 := fun U (hU : Below w1.heap.size w1 U) => Lib.hid (vlCells ((hU.block (W.heap.size + 1) hl2).trans ((H1.out.block (W.heap.size + 1) (by simp)).trans HVl.out)))
    have HB1 := Lib.hid (HB.out.trans (H1.out.mono HB.out.size))
    clear hp4 y0 y1 y2 z0 z1
    refine wp_region_quiet (C := fun U => Below w1.heap.size w1 U) (by kernel_rfl) (by kernel_rfl) (Below.refl _ _).drew ?_
    dsimp only
    go_big_quiet_want; refine ⟨.agg #[.int .i64 a, .int .i64 (y : Int), .bool g], fun U hU => (by obtain ⟨e0, e1, e2⟩ := (HC0 U hU).out; simp [Oper.quietAt, Oper.quietUpon, go_sem, e0, e1, e2]), ?_⟩; simp only [Act.put, List.setIfInBounds_toArray, List.set_cons_zero, List.set_cons_succ]; go_big_quiet_on
    go_big_quiet_want; refine ⟨.agg #[.int .i64 k, .int .i64 n], fun U hU => (by obtain ⟨e0, e1⟩ := (HC1 U hU).out; simp [Oper.quietAt, Oper.quietUpon, go_sem, e0, e1]), ?_⟩; simp only [Act.put, List.setIfInBounds_toArray, List.set_cons_zero, List.set_cons_succ]; go_big_quiet_on
    go_big_quiet_want; go_big_quiet_op; refine ⟨_, fun U hU => quietCall hU ((fun U => (HM U).out) U), ?_⟩; go_big_quiet_on
    go_big_quiet_want; go_big_quiet_op; first | go_big_quiet_on | (refine ⟨_, fun _ _ => rfl, ?_⟩; go_big_quiet_on)
    go_big_quiet_want; refine ⟨.int .i64 (y : Int), fun U hU => (by obtain ⟨e0, e1, e2⟩ := (HC0 U hU).out; simp [Oper.quietAt, Oper.quietUpon, go_sem, e1]), ?_⟩; simp only [Act.put, List.setIfInBounds_toArray, List.set_cons_zero, List.set_cons_succ]; go_big_quiet_on
    go_big_quiet_want; refine ⟨.int .i64 p, fun U hU => (by simp [Oper.quietAt, Oper.quietUpon, go_sem, hsh2]), ?_⟩; simp only [Act.put, List.setIfInBounds_toArray, List.set_cons_zero, List.set_cons_succ]; go_big_quiet_on
    go_big_quiet_want; refine ⟨.int .i64 (p - 1), fun U hU => (by simp [Oper.quietAt, Oper.quietUpon, go_sem, hp5]), ?_⟩; simp only [Act.put, List.setIfInBounds_toArray, List.set_cons_zero, List.set_cons_succ]; go_big_quiet_on
    go_big_quiet_want; refine ⟨.int .i64 N, fun U hU => (by simp [Oper.quietAt, Oper.quietUpon, go_sem, hand]), ?_⟩; simp only [Act.put, List.setIfInBounds_toArray, List.set_cons_zero, List.set_cons_succ]; go_big_quiet_on
    go_big_quiet_want; go_big_quiet_op; first | go_big_quiet_on | (refine ⟨_, fun _ _ => rfl, ?_⟩; go_big_quiet_on)
    refine wpQuiet_nil ?_
    intro X hX
    have HX := Lib.hid (H1.out.trans (hX.mono H1.out.size))
    obtain ⟨y0, y1, y2⟩ := twoKept HX.out (by simp; omega) HFd.out
    go_wp2_with fail
    refine (HS _).out.mono ?_
    rintro e w4 ⟨rfl, hb4⟩
    go_wp2
    go_ret
    exact ⟨rfl, (HB.out.trans (HX.out.mono HB.out.size)).trans (hb4.mono (Nat.le_trans HB.out.size HX.out.size))⟩
  · have HO := Lib.hid (hO.symm.trans (fput_off h h2))
    clear hO
    unfold fdV vlV at *
    go_enter Try.func120, Try.ntmps120
    go_wp2_with fail
    refine ((HL _).out).mono ?_
    rintro e w' ⟨rfl, rfl⟩
    go_wp2_with fail
    refine ((HR _).out).mono ?_
    rintro e w1 ⟨rfl, hb1⟩
    have H1 := Lib.hid (hb1)
    clear hb1
    obtain ⟨y0, y1, y2⟩ := twoKept H1.out (by simp; omega) HFd.out
    obtain ⟨z0, z1⟩ := vlCells ((H1.out.block (W.heap.size + 1) (by simp)).trans HVl.out)
    go_wp2_with fail
    refine ((HJ _).out).mono ?_
    rintro e w2 ⟨rfl, hb2⟩
    have H2 := Lib.hid (H1.out.trans (hb2.mono H1.out.size))
    clear hb2
    clear y0 y1 y2 z0 z1
    obtain ⟨y0, y1, y2⟩ := twoKept H2.out (by simp; omega) HFd.out
    obtain ⟨z0, z1⟩ := vlCells ((H2.out.block (W.heap.size + 1) (by simp)).trans HVl.out)
    go_wp2
    go_ret
    exact ⟨by rw [HO.out]; rfl, HB.out.trans (H2.out.mono HB.out.size)⟩
end Go.Proofs.Ytanijfmfjabmfaa
