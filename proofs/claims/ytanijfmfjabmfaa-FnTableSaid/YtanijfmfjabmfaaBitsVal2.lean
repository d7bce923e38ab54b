/- What a Field that is all in a text tells, and the text with a Value in it: the program's and the model's. Nothing that was there is written. -/
import Derived.Test.YtanijfmfjabmfaaBitsVal
import Derived.Test.YtanijfmfjabmfaaBitsPut3
namespace Go.Proofs.Ytanijfmfjabmfaa
open Go.RowKit
set_option linter.unusedVariables false

/-- The cells of a Value's variable that a call leaves as they are. -/
theorem vlKept {U w1 : World} {R : Nat} {k n : Int} {T : TypeId} (hb : Below U.heap.size U w1) (hR : R < U.heap.size) (h : U.heap[R]? = some (.cells #[.int .i64 k, .int .i64 n] T (0, 0))) :
    w1.cell? ⟨R, 0, none⟩ = some (.int .i64 k) ∧ w1.cell? ⟨R, 1, none⟩ = some (.int .i64 n) ∧ w1.frozen? ⟨R, 0, none⟩ = false ∧ w1.frozen? ⟨R, 1, none⟩ = false ∧ ∀ j, j < 2 → (w1.cell? ⟨R, j, none⟩).isSome = true := by
  have h' := (hb.block R hR).trans h
  obtain ⟨z0, z1⟩ := vlCells h'
  refine ⟨z0, z1, frozen_of_row w1 R 0 _ _ h', frozen_of_row w1 R 1 _ _ h', fun j hj => ?_⟩
  rcases (show j = 0 ∨ j = 1 by omega) with rfl | rfl
  · rw [z0]; rfl
  · rw [z1]; rfl
theorem mean_num {a w n : Int} {g : Bool} (h : fieldB a w = true) (hn : n ≤ highI a w g) : meanI w g n = (1, n) := by
  rw [highI_on h] at hn
  unfold meanI
  by_cases h4 : w < 4
  · rw [if_neg (by omega), if_neg (by omega)]
  · rw [if_neg h4] at hn
    rw [if_neg (by omega), if_neg (by omega)]
theorem mean_none {a w n : Int} {g : Bool} (h : fieldB a w = true) (hn : ¬ n ≤ highI a w g) (ht : n = topI w g) : meanI w g n = (2, 0) := by
  rw [highI_on h] at hn
  unfold meanI
  by_cases h4 : w < 4
  · rw [if_pos h4] at hn; omega
  · rw [if_pos (by omega)]
theorem mean_err {a w n : Int} {g : Bool} (h : fieldB a w = true) (hn : ¬ n ≤ highI a w g) (hne : ¬ n = topI w g) (ht : n ≤ topI w g) : meanI w g n = (3, 0) := by
  rw [highI_on h] at hn
  unfold meanI
  by_cases h4 : w < 4
  · rw [if_pos h4] at hn; omega
  · rw [if_neg h4] at hn
    rw [if_neg (by omega), if_pos (by omega)]
set_option maxRecDepth 100000 in
set_option maxHeartbeats 4000000 in
theorem meaning_any (a w : Int) (g : Bool) (n : Int) (W : World) (hf : fieldB a w = true) (ht : n ≤ topI w g) :
    Calls Try.prog 178 #[fdV a w g, .int .i64 n] W fun e W' => e = .returned (vlV (meanI w g n).1 (meanI w g n).2) ∧ Below W.heap.size W W' := by
  have HFd := Lib.hid (twoF W a w g 0 0)
  have HVl := Lib.hid (twoV W a w g 0 0)
  have HB := Lib.hid (twoB W a w g 0 0)
  have HH := fun U => Lib.hid (implHighOf_any a w g U)
  have HM := fun U => Lib.hid (mostOf_any a w g U hf)
  by_cases h1 : n ≤ highI a w g
  · have HO := Lib.hid (mean_num hf h1)
    have hd : decide (n ≤ highI a w g) = true := decide_eq_true h1
    generalize highI a w g = hi at *
    generalize meanI w g n = mm at *
    unfold fdV at *
    go_enter Try.func178, Try.ntmps178
    go_wp2_with (go_at_call 185; refine (HH _).out.mono ?_; rintro e w1 ⟨rfl, hb1⟩; obtain ⟨y0, y1, y2⟩ := fdCells ((hb1.block W.heap.size (by simp; omega)).trans HFd.out); obtain ⟨z0, z1, f0, f1, k0⟩ := vlKept hb1 (by simp) HVl.out; have B1 := Lib.hid (HB.out.trans (hb1.mono HB.out.size)))
    exact bodyPost_ret (v := vlV 1 n) (by simp [results, Try.results178, go_sem, k0, vlV]) rfl ⟨by rw [HO.out], (B1.out.setCell (by simp) _).setCell (by simp) _⟩
  · have hd : decide (n ≤ highI a w g) = false := decide_eq_false h1
    by_cases h2 : n = topI w g
    · have HO := Lib.hid (mean_none hf h1 h2)
      have hd2 : (n == topI w g) = true := decide_eq_true h2
      generalize highI a w g = hi at *
      generalize meanI w g n = mm at *
      generalize topI w g = tt at *
      clear h2
      unfold fdV at *
      go_enter Try.func178, Try.ntmps178
      go_wp2_with (first
        | (go_at_call 185; refine (HH _).out.mono ?_; rintro e w1 ⟨rfl, hb1⟩; obtain ⟨y0, y1, y2⟩ := fdCells ((hb1.block W.heap.size (by simp; omega)).trans HFd.out); obtain ⟨z0, z1, f0, f1, k0⟩ := vlKept hb1 (by simp) HVl.out; have B1 := Lib.hid (HB.out.trans (hb1.mono HB.out.size)))
        | (go_at_call 177; refine (HM _).out.mono ?_; rintro e w2 ⟨rfl, hb2⟩; have H12 := hb1.trans (hb2.mono hb1.size); clear z0 z1 f0 f1 k0; obtain ⟨z0, z1, f0, f1, k0⟩ := vlKept H12 (by simp) HVl.out; have B2 := Lib.hid (HB.out.trans (H12.mono HB.out.size))))
      exact bodyPost_ret (v := vlV 2 0) (by simp [results, Try.results178, go_sem, k0, vlV]) rfl ⟨by rw [HO.out], (B2.out.setCell (by simp) _).setCell (by simp) _⟩
    · have HO := Lib.hid (mean_err hf h1 h2 ht)
      have hd2 : (n == topI w g) = false := decide_eq_false h2
      generalize highI a w g = hi at *
      generalize meanI w g n = mm at *
      generalize topI w g = tt at *
      unfold fdV at *
      go_enter Try.func178, Try.ntmps178
      go_wp2_with (first
        | (go_at_call 185; refine (HH _).out.mono ?_; rintro e w1 ⟨rfl, hb1⟩; obtain ⟨y0, y1, y2⟩ := fdCells ((hb1.block W.heap.size (by simp; omega)).trans HFd.out); obtain ⟨z0, z1, f0, f1, k0⟩ := vlKept hb1 (by simp) HVl.out; have B1 := Lib.hid (HB.out.trans (hb1.mono HB.out.size)))
        | (go_at_call 177; refine (HM _).out.mono ?_; rintro e w2 ⟨rfl, hb2⟩; have H12 := hb1.trans (hb2.mono hb1.size); clear z0 z1 f0 f1 k0; obtain ⟨z0, z1, f0, f1, k0⟩ := vlKept H12 (by simp) HVl.out; have B2 := Lib.hid (HB.out.trans (H12.mono HB.out.size))))
      exact bodyPost_ret (v := vlV 3 0) (by simp [results, Try.results178, go_sem, k0, vlV]) rfl ⟨by rw [HO.out], (B2.out.setCell (by simp) _).setCell (by simp) _⟩
theorem tell_none (w n : Int) (g : Bool) : tellI w g 2 n = topI w g := rfl
theorem tell_err (w n : Int) (g : Bool) : tellI w g 3 n = topI w g - 1 := rfl
theorem tell_num {w k n : Int} {g : Bool} (h2 : ¬ k = 2) (h3 : ¬ k = 3) : tellI w g k n = n := by simp [tellI, h2, h3]
set_option maxRecDepth 100000 in
set_option maxHeartbeats 4000000 in
theorem meant_any (a w : Int) (g : Bool) (k n : Int) (W : World) (hf : fieldB a w = true) :
    Calls Try.prog 172 #[fdV a w g, vlV k n] W fun e W' => e = .returned (.int .i64 (tellI w g k n)) ∧ Below W.heap.size W W' := by
  have HFd := Lib.hid (twoF W a w g k n)
  have HVl := Lib.hid (twoV W a w g k n)
  have HB := Lib.hid (twoB W a w g k n)
  have HM := fun U => Lib.hid (mostOf_any a w g U hf)
  obtain ⟨_, _, h2, h3⟩ := fieldB_of hf
  have ht := topI_in g h2 h3
  by_cases hk : k = 2
  · subst hk
    have HO := Lib.hid (tell_none w n g)
    generalize topI w g = tt at *
    generalize tellI w g 2 n = r at *
    unfold fdV vlV at *
    go_enter Try.func172, Try.ntmps172
    go_wp2_with (go_at_call 177; refine (HM _).out.mono ?_; rintro e w1 ⟨rfl, hb1⟩)
    go_ret
    exact ⟨by rw [HO.out]; rfl, HB.out.trans (hb1.mono HB.out.size)⟩
  · have hd2 : (k == 2) = false := decide_eq_false hk
    by_cases hk3 : k = 3
    · subst hk3
      have HO := Lib.hid (tell_err w n g)
      generalize topI w g = tt at *
      generalize tellI w g 3 n = r at *
      unfold fdV vlV at *
      go_enter Try.func172, Try.ntmps172
      go_wp2_with (go_at_call 177; refine (HM _).out.mono ?_; rintro e w1 ⟨rfl, hb1⟩)
      go_ret
      exact ⟨by rw [HO.out]; rfl, HB.out.trans (hb1.mono HB.out.size)⟩
    · have hd3 : (k == 3) = false := decide_eq_false hk3
      have HO := Lib.hid (tell_num (w := w) (n := n) (g := g) hk hk3)
      unfold fdV vlV at *
      generalize tellI w g k n = r at *
      go_enter Try.func172, Try.ntmps172
      go_wp2
      go_ret
      exact ⟨by rw [HO.out]; rfl, HB.out⟩
end Go.Proofs.Ytanijfmfjabmfaa
