/- The least and the greatest number of a Field: the program's and the model's. Nothing that was there is written. -/
import Derived.Test.YtanijfmfjabmfaaBitsStraight
import Derived.Deep.RegionHeld3
namespace Go.Proofs.Ytanijfmfjabmfaa
open Go.RowKit
set_option linter.unusedVariables false

/-- The cells of a Field's variable. -/
theorem fdCells {u : World} {R : Nat} {a w : Int} {g : Bool} {T : TypeId} (h : u.heap[R]? = some (.cells #[.int .i64 a, .int .i64 w, .bool g] T (0, 0))) :
    u.cell? ⟨R, 0, none⟩ = some (.int .i64 a) ∧ u.cell? ⟨R, 1, none⟩ = some (.int .i64 w) ∧ u.cell? ⟨R, 2, none⟩ = some (.bool g) :=
  ⟨(cell_of_row u R 0 _ _ (0, 0) h).trans rfl, (cell_of_row u R 1 _ _ (0, 0) h).trans rfl, (cell_of_row u R 2 _ _ (0, 0) h).trans rfl⟩
/-- The cells of a Value's variable. -/
theorem vlCells {u : World} {R : Nat} {k n : Int} {T : TypeId} (h : u.heap[R]? = some (.cells #[.int .i64 k, .int .i64 n] T (0, 0))) :
    u.cell? ⟨R, 0, none⟩ = some (.int .i64 k) ∧ u.cell? ⟨R, 1, none⟩ = some (.int .i64 n) :=
  ⟨(cell_of_row u R 0 _ _ (0, 0) h).trans rfl, (cell_of_row u R 1 _ _ (0, 0) h).trans rfl⟩
theorem shl_pow1 (w : Int) (h0 : 0 ≤ w) (h1 : w ≤ 62) : IntKind.i64.wrap (2 ^ min w.toNat 64) = powI w := by
  have := shl_pow w h0 h1
  rwa [Int.one_mul] at this
theorem wrap64_i64 (n : Int) : IntKind.i64.wrap n = wrap64 n := by
  rw [IntKind.wrap_i64]
  unfold wrap64
  first | rfl | (split <;> omega) | omega
theorem pow64 {w : Int} (h0 : 0 ≤ w) (h1 : w ≤ 62) : wrap64 (2 ^ w.toNat) = powI w := by
  have := shl_pow1 w h0 h1
  have hm : min w.toNat 64 = w.toNat := by omega
  rw [hm] at this
  rw [← this]
  exact (wrap64_i64 _).symm
theorem pow64_less {w : Int} (h0 : 1 ≤ w) (h1 : w ≤ 62) : wrap64 (2 ^ (w.toNat - 1)) = powI (w - 1) := by
  have := pow64 (w := w - 1) (by omega) (by omega)
  rwa [show (w - 1).toNat = w.toNat - 1 by omega] at this
theorem lowI_off {a w : Int} {g : Bool} (h : fieldB a w = false) : lowI a w g = 0 := by simp [lowI, h]
theorem lowI_plain (a w : Int) : lowI a w false = 0 := by simp [lowI]
theorem lowI_on {a w : Int} (h : fieldB a w = true) : lowI a w true = -(powI (w - 1)) := by simp [lowI, h]
theorem highI_off {a w : Int} {g : Bool} (h : fieldB a w = false) : highI a w g = 0 := by simp [highI, h]
theorem highI_on {a w : Int} {g : Bool} (h : fieldB a w = true) : highI a w g = if w < 4 then topI w g else topI w g - 2 := by simp [highI, h]
/-- The bounds of a right Field's numbers. -/
theorem topI_in {w : Int} (g : Bool) (h0 : 1 ≤ w) (h1 : w ≤ 32) : 0 ≤ topI w g ∧ topI w g ≤ 4294967295 := by
  have h2 := powI_pos w
  have h3 := powI_le h1
  have h4 := powI_pos (w - 1)
  have h5 := powI_le (w := w - 1) (by omega)
  unfold topI
  split <;> omega
theorem lowI_in {a w : Int} (g : Bool) (h : fieldB a w = true) : -4294967296 ≤ lowI a w g ∧ lowI a w g ≤ 0 := by
  obtain ⟨_, _, h0, h1⟩ := fieldB_of h
  have h4 := powI_pos (w - 1)
  have h5 := powI_le (w := w - 1) (by omega)
  cases g
  · rw [lowI_plain]; omega
  · rw [lowI_on h]; omega
theorem mostI {a w : Int} (g : Bool) (h : fieldB a w = true) : lowI a w g + (powI w - 1) = topI w g := by
  obtain ⟨_, _, h0, h1⟩ := fieldB_of h
  have h4 := powI_step h0
  cases g
  · rw [lowI_plain]; simp [topI]
  · rw [lowI_on h]; simp [topI]; omega

set_option maxRecDepth 100000 in
set_option maxHeartbeats 1000000 in
theorem implLowOf_any (a w : Int) (g : Bool) (W : World) :
    Calls Try.prog 184 #[fdV a w g] W fun e W' => e = .returned (.int .i64 (lowI a w g)) ∧ Below W.heap.size W W' := by
  unfold fdV
  have HA := Lib.hid (heap_alloc_new W (.cells #[.int .i64 a, .int .i64 w, .bool g] 77))
  have HB := Lib.hid (show Below W.heap.size W (W.alloc (.cells #[.int .i64 a, .int .i64 w, .bool g] 77)) from (Below.refl _ _).alloc (Nat.le_refl _) _)
  rcases Bool.eq_false_or_eq_true (fieldB a w) with h1 | h1
  · obtain ⟨_, _, h2, h3⟩ := fieldB_of h1
    have hp1 := powI_pos (w - 1)
    have hp2 := powI_le (w := w - 1) (by omega)
    have hp3 := pow64_less h2 (by omega)
    have hp4 : wrap64 (-powI (w - 1)) = -powI (w - 1) := IntWalk.wrap64_in _ (by omega)
    cases g
    · go_enter Try.func184, Try.ntmps184
      go_wp2_with (go_at_call 183; refine (implFieldRight_any _ _ _ _).mono ?_; rintro e w1 ⟨rfl, hb1⟩; obtain ⟨y0, y1, y2⟩ := fdCells ((hb1.block W.heap.size (by simp)).trans HA.out))
      go_ret
      exact ⟨by rw [lowI_plain]; rfl, HB.out.trans (hb1.mono HB.out.size)⟩
    · have HO := Lib.hid (lowI_on h1)
      go_enter Try.func184, Try.ntmps184
      go_wp2_with (go_at_call 183; refine (implFieldRight_any _ _ _ _).mono ?_; rintro e w1 ⟨rfl, hb1⟩; obtain ⟨y0, y1, y2⟩ := fdCells ((hb1.block W.heap.size (by simp)).trans HA.out))
      go_ret
      exact ⟨by rw [HO.out]; rfl, HB.out.trans (hb1.mono HB.out.size)⟩
  · have HO := Lib.hid (lowI_off (g := g) h1)
    go_enter Try.func184, Try.ntmps184
    go_wp2_with (go_at_call 183; refine (implFieldRight_any _ _ _ _).mono ?_; rintro e w1 ⟨rfl, hb1⟩; obtain ⟨y0, y1, y2⟩ := fdCells ((hb1.block W.heap.size (by simp)).trans HA.out))
    go_ret
    exact ⟨by rw [HO.out]; rfl, HB.out.trans (hb1.mono HB.out.size)⟩

set_option maxRecDepth 100000 in
set_option maxHeartbeats 1000000 in
theorem mostOf_any (a w : Int) (g : Bool) (W : World) (hf : fieldB a w = true) :
    Calls Try.prog 177 #[fdV a w g] W fun e W' => e = .returned (.int .i64 (topI w g)) ∧ Below W.heap.size W W' := by
  unfold fdV
  have HA := Lib.hid (heap_alloc_new W (.cells #[.int .i64 a, .int .i64 w, .bool g] 77))
  have HB := Lib.hid (show Below W.heap.size W (W.alloc (.cells #[.int .i64 a, .int .i64 w, .bool g] 77)) from (Below.refl _ _).alloc (Nat.le_refl _) _)
  obtain ⟨_, _, h2, h3⟩ := fieldB_of hf
  have hp1 := powI_pos w
  have hp2 := powI_le h3
  have hp3 := pow64 (w := w) (by omega) (by omega)
  have HO := Lib.hid (mostI g hf)
  have hl := lowI_in g hf
  have HL := fun W => Lib.hid (implLowOf_any a w g W)
  generalize lowI a w g = L at *
  go_enter Try.func177, Try.ntmps177
  go_wp2_with fail
  obtain ⟨y0, y1, y2⟩ := fdCells HA.out
  go_region_with (go_at_call 184; refine (HL _).out.mono ?_; rintro e w1 ⟨rfl, hb1⟩; obtain ⟨z0, z1, z2⟩ := fdCells ((hb1.block W.heap.size (by simp)).trans HA.out))
  all_goals (try go_wp2)
  all_goals go_ret
  all_goals refine ⟨?_, HB.out.drew.trans (hb1.mono HB.out.size)⟩
  all_goals
    show Ending.returned (.int .i64 (IntKind.i64.wrap (L + IntKind.i64.wrap (IntKind.i64.wrap (2 ^ w.toNat) - 1)))) = _
    rw [show IntKind.i64.wrap (2 ^ w.toNat) = powI w from (wrap64_i64 _).trans hp3, IntWalk.i64_in (powI w - 1) (by omega), IntWalk.i64_in (L + (powI w - 1)) (by omega), HO.out]
set_option maxRecDepth 100000 in
set_option maxHeartbeats 1000000 in
theorem implHighOf_any (a w : Int) (g : Bool) (W : World) :
    Calls Try.prog 185 #[fdV a w g] W fun e W' => e = .returned (.int .i64 (highI a w g)) ∧ Below W.heap.size W W' := by
  unfold fdV
  have HA := Lib.hid (heap_alloc_new W (.cells #[.int .i64 a, .int .i64 w, .bool g] 77))
  have HB := Lib.hid (show Below W.heap.size W (W.alloc (.cells #[.int .i64 a, .int .i64 w, .bool g] 77)) from (Below.refl _ _).alloc (Nat.le_refl _) _)
  rcases Bool.eq_false_or_eq_true (fieldB a w) with h1 | h1
  · obtain ⟨_, _, h2, h3⟩ := fieldB_of h1
    have ht := topI_in g h2 h3
    have HM := fun W => Lib.hid (mostOf_any a w g W h1)
    have HO := highI_on (g := g) h1
    generalize topI w g = t at *
    by_cases h4 : w < 4
    · rw [if_pos h4] at HO
      have HO := Lib.hid HO
      go_enter Try.func185, Try.ntmps185
      go_wp2_with (first
        | (go_at_call 183; refine (implFieldRight_any _ _ _ _).mono ?_; rintro e w1 ⟨rfl, hb1⟩; obtain ⟨y0, y1, y2⟩ := fdCells ((hb1.block W.heap.size (by simp)).trans HA.out))
        | (go_at_call 177; refine (HM _).out.mono ?_; rintro e w2 ⟨rfl, hb2⟩))
      go_ret
      exact ⟨by rw [HO.out]; rfl, (HB.out.trans (hb1.mono HB.out.size)).trans (hb2.mono (Nat.le_trans HB.out.size hb1.size))⟩
    · rw [if_neg h4] at HO
      have HO := Lib.hid HO
      go_enter Try.func185, Try.ntmps185
      go_wp2_with (first
        | (go_at_call 183; refine (implFieldRight_any _ _ _ _).mono ?_; rintro e w1 ⟨rfl, hb1⟩; obtain ⟨y0, y1, y2⟩ := fdCells ((hb1.block W.heap.size (by simp)).trans HA.out))
        | (go_at_call 177; refine (HM _).out.mono ?_; rintro e w2 ⟨rfl, hb2⟩))
      go_ret
      exact ⟨by rw [HO.out]; rfl, (HB.out.trans (hb1.mono HB.out.size)).trans (hb2.mono (Nat.le_trans HB.out.size hb1.size))⟩
  · have HO := Lib.hid (highI_off (g := g) h1)
    go_enter Try.func185, Try.ntmps185
    go_wp2_with (go_at_call 183; refine (implFieldRight_any _ _ _ _).mono ?_; rintro e w1 ⟨rfl, hb1⟩; obtain ⟨y0, y1, y2⟩ := fdCells ((hb1.block W.heap.size (by simp)).trans HA.out))
    go_ret
    exact ⟨by rw [HO.out]; rfl, HB.out.trans (hb1.mono HB.out.size)⟩

set_option maxHeartbeats 1000000 in
theorem l07Low_any (a w : Int) (g : Bool) (W : World) (hf : fieldB a w = true) :
    Calls Try.prog 187 #[fdV a w g] W fun e W' => e = .returned (.int .i64 (lowI a w g)) ∧ Below W.heap.size W W' := by
  unfold fdV
  have HB := Lib.hid (show Below W.heap.size W (W.alloc (.cells #[.int .i64 a, .int .i64 w, .bool g] 77)) from (Below.refl _ _).alloc (Nat.le_refl _) _)
  obtain ⟨_, _, h2, h3⟩ := fieldB_of hf
  have hp1 := powI_pos (w - 1)
  have hp2 := powI_le (w := w - 1) (by omega)
  have h0 : 0 ≤ w - 1 := by omega
  have h1 : w - 1 ≤ 32 := by omega
  have HP := fun W => Lib.hid (l07Pow_any (w - 1) W h0 h1)
  cases g
  · go_enter Try.func187, Try.ntmps187
    go_wp2
    go_ret
    exact ⟨by rw [lowI_plain]; rfl, HB.out⟩
  · have HO := Lib.hid (lowI_on hf)
    go_enter Try.func187, Try.ntmps187
    go_wp2_with (go_at_call 181; refine (HP _).out.mono ?_; rintro e w1 ⟨rfl, rfl⟩)
    go_ret
    exact ⟨by rw [HO.out]; rfl, HB.out⟩
set_option maxHeartbeats 1000000 in
theorem l07Top_any (a w : Int) (g : Bool) (W : World) (hw0 : 1 ≤ w) (hw1 : w ≤ 32) :
    Calls Try.prog 180 #[fdV a w g] W fun e W' => e = .returned (.int .i64 (topI w g)) ∧ Below W.heap.size W W' := by
  unfold fdV
  have HB := Lib.hid (show Below W.heap.size W (W.alloc (.cells #[.int .i64 a, .int .i64 w, .bool g] 77)) from (Below.refl _ _).alloc (Nat.le_refl _) _)
  cases g
  · have HO := Lib.hid (show topI w false = powI w - 1 from rfl)
    have hp1 := powI_pos w
    have hp2 := powI_le hw1
    have HP := fun W => Lib.hid (l07Pow_any w W (by omega) hw1)
    go_enter Try.func180, Try.ntmps180
    go_wp2_with (go_at_call 181; refine (HP _).out.mono ?_; rintro e w1 ⟨rfl, rfl⟩)
    go_ret
    exact ⟨by rw [HO.out]; rfl, HB.out⟩
  · have HO := Lib.hid (show topI w true = powI (w - 1) - 1 from rfl)
    have hp1 := powI_pos (w - 1)
    have hp2 := powI_le (w := w - 1) (by omega)
    have HP := fun W => Lib.hid (l07Pow_any (w - 1) W (by omega) (by omega))
    go_enter Try.func180, Try.ntmps180
    go_wp2_with (go_at_call 181; refine (HP _).out.mono ?_; rintro e w1 ⟨rfl, rfl⟩)
    go_ret
    exact ⟨by rw [HO.out]; rfl, HB.out⟩
set_option maxHeartbeats 1000000 in
theorem l07High_any (a w : Int) (g : Bool) (W : World) (hf : fieldB a w = true) :
    Calls Try.prog 188 #[fdV a w g] W fun e W' => e = .returned (.int .i64 (highI a w g)) ∧ Below W.heap.size W W' := by
  unfold fdV
  have HB := Lib.hid (show Below W.heap.size W (W.alloc (.cells #[.int .i64 a, .int .i64 w, .bool g] 77)) from (Below.refl _ _).alloc (Nat.le_refl _) _)
  obtain ⟨_, _, h2, h3⟩ := fieldB_of hf
  have ht := topI_in g h2 h3
  have HM := fun W => Lib.hid (l07Top_any a w g W h2 h3)
  have HO := highI_on (g := g) hf
  generalize topI w g = t at *
  by_cases h4 : w < 4
  · rw [if_pos h4] at HO
    have HO := Lib.hid HO
    go_enter Try.func188, Try.ntmps188
    go_wp2_with (go_at_call 180; refine (HM _).out.mono ?_; rintro e w2 ⟨rfl, hb2⟩)
    go_ret
    exact ⟨by rw [HO.out]; rfl, HB.out.trans (hb2.mono HB.out.size)⟩
  · rw [if_neg h4] at HO
    have HO := Lib.hid HO
    go_enter Try.func188, Try.ntmps188
    go_wp2_with (go_at_call 180; refine (HM _).out.mono ?_; rintro e w2 ⟨rfl, hb2⟩)
    go_ret
    exact ⟨by rw [HO.out]; rfl, HB.out.trans (hb2.mono HB.out.size)⟩
set_option maxHeartbeats 1000000 in
theorem specLowOf_any (a w : Int) (g : Bool) (W : World) :
    Calls Try.prog 204 #[fdV a w g] W fun e W' => e = .returned (.int .i64 (lowI a w g)) ∧ Below W.heap.size W W' := by
  unfold fdV
  have HA := Lib.hid (heap_alloc_new W (.cells #[.int .i64 a, .int .i64 w, .bool g] 77))
  have HB := Lib.hid (show Below W.heap.size W (W.alloc (.cells #[.int .i64 a, .int .i64 w, .bool g] 77)) from (Below.refl _ _).alloc (Nat.le_refl _) _)
  rcases Bool.eq_false_or_eq_true (fieldB a w) with h1 | h1
  · have HL := fun W => Lib.hid (l07Low_any a w g W h1)
    go_enter Try.func204, Try.ntmps204
    go_wp2_with (first
      | (go_at_call 186; refine (specFieldRight_any _ _ _ _).mono ?_; rintro e w1 ⟨rfl, hb1⟩; obtain ⟨y0, y1, y2⟩ := fdCells ((hb1.block W.heap.size (by simp)).trans HA.out))
      | (go_at_call 187; refine (HL _).out.mono ?_; rintro e w2 ⟨rfl, hb2⟩))
    go_ret
    exact ⟨rfl, (HB.out.trans (hb1.mono HB.out.size)).trans (hb2.mono (Nat.le_trans HB.out.size hb1.size))⟩
  · have HO := Lib.hid (lowI_off (g := g) h1)
    go_enter Try.func204, Try.ntmps204
    go_wp2_with (go_at_call 186; refine (specFieldRight_any _ _ _ _).mono ?_; rintro e w1 ⟨rfl, hb1⟩; obtain ⟨y0, y1, y2⟩ := fdCells ((hb1.block W.heap.size (by simp)).trans HA.out))
    go_ret
    exact ⟨by rw [HO.out]; rfl, HB.out.trans (hb1.mono HB.out.size)⟩
set_option maxHeartbeats 1000000 in
theorem specHighOf_any (a w : Int) (g : Bool) (W : World) :
    Calls Try.prog 205 #[fdV a w g] W fun e W' => e = .returned (.int .i64 (highI a w g)) ∧ Below W.heap.size W W' := by
  unfold fdV
  have HA := Lib.hid (heap_alloc_new W (.cells #[.int .i64 a, .int .i64 w, .bool g] 77))
  have HB := Lib.hid (show Below W.heap.size W (W.alloc (.cells #[.int .i64 a, .int .i64 w, .bool g] 77)) from (Below.refl _ _).alloc (Nat.le_refl _) _)
  rcases Bool.eq_false_or_eq_true (fieldB a w) with h1 | h1
  · have HL := fun W => Lib.hid (l07High_any a w g W h1)
    go_enter Try.func205, Try.ntmps205
    go_wp2_with (first
      | (go_at_call 186; refine (specFieldRight_any _ _ _ _).mono ?_; rintro e w1 ⟨rfl, hb1⟩; obtain ⟨y0, y1, y2⟩ := fdCells ((hb1.block W.heap.size (by simp)).trans HA.out))
      | (go_at_call 188; refine (HL _).out.mono ?_; rintro e w2 ⟨rfl, hb2⟩))
    go_ret
    exact ⟨rfl, (HB.out.trans (hb1.mono HB.out.size)).trans (hb2.mono (Nat.le_trans HB.out.size hb1.size))⟩
  · have HO := Lib.hid (highI_off (g := g) h1)
    go_enter Try.func205, Try.ntmps205
    go_wp2_with (go_at_call 186; refine (specFieldRight_any _ _ _ _).mono ?_; rintro e w1 ⟨rfl, hb1⟩; obtain ⟨y0, y1, y2⟩ := fdCells ((hb1.block W.heap.size (by simp)).trans HA.out))
    go_ret
    exact ⟨by rw [HO.out]; rfl, HB.out.trans (hb1.mono HB.out.size)⟩
end Go.Proofs.Ytanijfmfjabmfaa
