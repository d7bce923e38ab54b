/- What a Field tells, and by which number it tells a Value: the program's and the model's. Nothing that was there is written. -/
import Derived.Test.YtanijfmfjabmfaaOpenBits
import Derived.Test.YtanijfmfjabmfaaRowsAt
import Derived.BigQuiet
import Derived.Deep.QuietTactic
namespace Go.Proofs.Ytanijfmfjabmfaa
open Go.RowKit
set_option linter.unusedVariables false

theorem valB_off {a w : Int} {g : Bool} {k n : Int} (h : fieldB a w = false) : valB a w g k n = false := by simp [valB, h]
theorem valB_num {a w : Int} {g : Bool} {n : Int} (h : fieldB a w = true) : valB a w g 1 n = inB (lowI a w g) (highI a w g) n := by simp [valB, h, inB]
theorem valB_else {a w : Int} {g : Bool} {k n : Int} (h : fieldB a w = true) (hk : ¬ k = 1) : valB a w g k n = (inB 2 3 k && (decide (n = 0) && decide (4 ≤ w))) := by simp [valB, h, hk]
theorem highI_in {a w : Int} (g : Bool) (h : fieldB a w = true) : -1 ≤ highI a w g ∧ highI a w g ≤ 4294967295 := by
  obtain ⟨_, _, h0, h1⟩ := fieldB_of h
  have h2 := topI_in g h0 h1
  rw [highI_on h]
  split
  · omega
  · have h4 := powI_four (w := w) (by omega)
    have h5 := powI_step h0
    have h6 : 1 ≤ topI w g := by
      unfold topI
      split <;> omega
    omega
set_option maxRecDepth 100000 in
set_option maxHeartbeats 4000000 in
theorem specValueRight_any (a w : Int) (g : Bool) (k n : Int) (W : World) :
    Calls Try.prog 134 #[fdV a w g, vlV k n] W fun e W' => e = .returned (.bool (valB a w g k n)) ∧ Below W.heap.size W W' := by
  have HW : Below W.heap.size W ((W.alloc (.cells #[.int .i64 a, .int .i64 w, .bool g] 77)).alloc (.cells #[.int .i64 k, .int .i64 n] 142)) := ((Below.refl _ _).alloc (Nat.le_refl _) _).alloc (by simp) _
  have hF : ((W.alloc (.cells #[.int .i64 a, .int .i64 w, .bool g] 77)).alloc (.cells #[.int .i64 k, .int .i64 n] 142)).heap[W.heap.size]? = some (.cells #[.int .i64 a, .int .i64 w, .bool g] 77 (0, 0)) := by
    rw [Below.heap_alloc _ _ _ (by simp)]
    exact heap_alloc_new W _
  have hV : ((W.alloc (.cells #[.int .i64 a, .int .i64 w, .bool g] 77)).alloc (.cells #[.int .i64 k, .int .i64 n] 142)).heap[W.heap.size + 1]? = some (.cells #[.int .i64 k, .int .i64 n] 142 (0, 0)) := by
    have := heap_alloc_new (W.alloc (.cells #[.int .i64 a, .int .i64 w, .bool g] 77)) (.cells #[.int .i64 k, .int .i64 n] 142)
    simpa using this
  have HFd := Lib.hid hF
  have HVl := Lib.hid hV
  have HB := Lib.hid HW
  clear hF hV HW
  rcases Bool.eq_false_or_eq_true (fieldB a w) with h1 | h1
  · by_cases hk : k = 1
    · subst hk
      have HO := Lib.hid (valB_num (g := g) (n := n) h1)
      have HL := fun U => l07Low_any a w g U h1
      have HH := fun U => l07High_any a w g U h1
      unfold fdV vlV at *
      generalize lowI a w g = lo at *
      generalize highI a w g = hi at *
      go_enter Try.func134, Try.ntmps134
      go_wp2_with (go_at_call 186; refine (specFieldRight_any _ _ _ _).mono ?_; rintro e w1 ⟨rfl, hb1⟩; obtain ⟨y0, y1, y2⟩ := fdCells ((hb1.block W.heap.size (by simp; omega)).trans HFd.out); obtain ⟨z0, z1⟩ := vlCells ((hb1.block (W.heap.size + 1) (by simp)).trans HVl.out))
      have hl1 : W.heap.size < w1.heap.size := by have := hb1.size; simp at this; omega
      have hl2 : W.heap.size + 1 < w1.heap.size := by have := hb1.size; simp at this; omega
      have HB1 := Lib.hid (HB.out.trans (hb1.mono HB.out.size))
      have HC0 := fun U (hU : Below w1.heap.size w1 U) => Lib.hid (fdCells ((hU.block W.heap.size hl1).trans ((hb1.block W.heap.size (by simp; omega)).trans HFd.out)))
      clear hb1
      refine wp_region_quiet (C := fun U => Below w1.heap.size w1 U) (by kernel_rfl) (by kernel_rfl) (Below.refl _ _).drew ?_
      dsimp only
      go_big_quiet_want; go_big_quiet_op; first | go_big_quiet_on | (refine ⟨_, fun _ _ => rfl, ?_⟩; go_big_quiet_on)
      go_big_quiet_want; refine ⟨.int .i64 n, fun U hU => (by have e1 := (hU.cell (p := ⟨W.heap.size + 1, 1, none⟩) hl2).trans z1; simp [Oper.quietAt, Oper.quietUpon, go_sem, e1]), ?_⟩; simp only [Act.put, List.setIfInBounds_toArray, List.set_cons_zero, List.set_cons_succ]; go_big_quiet_on
      go_big_quiet_want; refine ⟨.agg #[.int .i64 a, .int .i64 w, .bool g], fun U hU => (by obtain ⟨e0, e1, e2⟩ := (HC0 U hU).out; simp [Oper.quietAt, Oper.quietUpon, go_sem, e0, e1, e2]), ?_⟩; simp only [Act.put, List.setIfInBounds_toArray, List.set_cons_zero, List.set_cons_succ]; go_big_quiet_on
      go_big_quiet_want; go_big_quiet_op; refine ⟨_, fun U hU => quietCall hU (HL U), ?_⟩; go_big_quiet_on
      go_big_quiet_want; refine ⟨.agg #[.int .i64 a, .int .i64 w, .bool g], fun U hU => (by obtain ⟨e0, e1, e2⟩ := (HC0 U hU).out; simp [Oper.quietAt, Oper.quietUpon, go_sem, e0, e1, e2]), ?_⟩; simp only [Act.put, List.setIfInBounds_toArray, List.set_cons_zero, List.set_cons_succ]; go_big_quiet_on
      go_big_quiet_want; go_big_quiet_op; refine ⟨_, fun U hU => quietCall hU (HH U), ?_⟩; go_big_quiet_on
      go_big_quiet_want; go_big_quiet_op; refine ⟨_, fun U hU => quietSame hU (l02Is_any n lo hi U), ?_⟩; go_big_quiet_on
      go_big_quiet_want; go_big_quiet_op; first | go_big_quiet_on | (refine ⟨_, fun _ _ => rfl, ?_⟩; go_big_quiet_on)
      refine wpQuiet_nil ?_
      intro X hX
      go_wp2_with fail
      go_ret
      exact ⟨by rw [HO.out]; rfl, HB1.out.trans (hX.mono HB1.out.size)⟩
    · have HO := Lib.hid (show valB a w g k n = (inB 2 3 k && ((n == 0) && decide (4 ≤ w))) from valB_else h1 hk)
      have hk1 : (k == 1) = false := decide_eq_false hk
      unfold fdV vlV at *
      rcases Bool.eq_false_or_eq_true (inB 2 3 k) with h2 | h2
      · rcases Bool.eq_false_or_eq_true (n == 0) with h3 | h3
        all_goals
          go_enter Try.func134, Try.ntmps134
          go_wp2_with (first
            | (go_at_call 186; refine (specFieldRight_any _ _ _ _).mono ?_; rintro e w1 ⟨rfl, hb1⟩; obtain ⟨y0, y1, y2⟩ := fdCells ((hb1.block W.heap.size (by simp; omega)).trans HFd.out); obtain ⟨z0, z1⟩ := vlCells ((hb1.block (W.heap.size + 1) (by simp)).trans HVl.out))
            | (go_at_call 87; refine (l02Is_any _ _ _ _).mono ?_; rintro e w' ⟨rfl, rfl⟩))
          go_ret
          exact ⟨by rw [HO.out, h2, h3]; rfl, HB.out.trans (hb1.mono HB.out.size)⟩
      · go_enter Try.func134, Try.ntmps134
        go_wp2_with (first
          | (go_at_call 186; refine (specFieldRight_any _ _ _ _).mono ?_; rintro e w1 ⟨rfl, hb1⟩; obtain ⟨y0, y1, y2⟩ := fdCells ((hb1.block W.heap.size (by simp; omega)).trans HFd.out); obtain ⟨z0, z1⟩ := vlCells ((hb1.block (W.heap.size + 1) (by simp)).trans HVl.out))
          | (go_at_call 87; refine (l02Is_any _ _ _ _).mono ?_; rintro e w' ⟨rfl, rfl⟩))
        go_ret
        exact ⟨by rw [HO.out, h2]; rfl, HB.out.trans (hb1.mono HB.out.size)⟩
  · have HO := Lib.hid (valB_off (g := g) (k := k) (n := n) h1)
    unfold fdV vlV at *
    go_enter Try.func134, Try.ntmps134
    go_wp2_with (go_at_call 186; refine (specFieldRight_any _ _ _ _).mono ?_; rintro e w1 ⟨rfl, hb1⟩; obtain ⟨y0, y1, y2⟩ := fdCells ((hb1.block W.heap.size (by simp; omega)).trans HFd.out); obtain ⟨z0, z1⟩ := vlCells ((hb1.block (W.heap.size + 1) (by simp)).trans HVl.out))
    go_ret
    exact ⟨by rw [HO.out]; rfl, HB.out.trans (hb1.mono HB.out.size)⟩
-- generated

theorem twoF (W : World) (a w : Int) (g : Bool) (k n : Int) : ((W.alloc (.cells #[.int .i64 a, .int .i64 w, .bool g] 77)).alloc (.cells #[.int .i64 k, .int .i64 n] 142)).heap[W.heap.size]? = some (.cells #[.int .i64 a, .int .i64 w, .bool g] 77 (0, 0)) := by
  rw [Below.heap_alloc _ _ _ (by simp)]
  exact heap_alloc_new W _
theorem twoV (W : World) (a w : Int) (g : Bool) (k n : Int) : ((W.alloc (.cells #[.int .i64 a, .int .i64 w, .bool g] 77)).alloc (.cells #[.int .i64 k, .int .i64 n] 142)).heap[W.heap.size + 1]? = some (.cells #[.int .i64 k, .int .i64 n] 142 (0, 0)) := by
  have := heap_alloc_new (W.alloc (.cells #[.int .i64 a, .int .i64 w, .bool g] 77)) (.cells #[.int .i64 k, .int .i64 n] 142)
  simpa using this
theorem twoB (W : World) (a w : Int) (g : Bool) (k n : Int) : Below W.heap.size W ((W.alloc (.cells #[.int .i64 a, .int .i64 w, .bool g] 77)).alloc (.cells #[.int .i64 k, .int .i64 n] 142)) := ((Below.refl _ _).alloc (Nat.le_refl _) _).alloc (by simp) _
theorem lt_two (n : Nat) : n < n + 1 + 1 := by omega
set_option maxRecDepth 100000 in
set_option maxHeartbeats 4000000 in
theorem implValueRight_any (a w : Int) (g : Bool) (k n : Int) (W : World) :
    Calls Try.prog 133 #[fdV a w g, vlV k n] W fun e W' => e = .returned (.bool (valB a w g k n)) ∧ Below W.heap.size W W' := by
  have HFd := Lib.hid (twoF W a w g k n)
  have HVl := Lib.hid (twoV W a w g k n)
  have HB := Lib.hid (twoB W a w g k n)
  rcases Bool.eq_false_or_eq_true (fieldB a w) with h1 | h1
  · by_cases hk : k = 1
    · subst hk
      have HO := Lib.hid (valB_num (g := g) (n := n) h1)
      have HL := fun U => implLowOf_any a w g U
      have HH := fun U => implHighOf_any a w g U
      unfold fdV vlV at *
      generalize lowI a w g = lo at *
      generalize highI a w g = hi at *
      rcases Bool.eq_false_or_eq_true (decide (lo ≤ n)) with h2 | h2
      · go_enter Try.func133, Try.ntmps133
        go_wp2_with (go_at_call 183; refine (implFieldRight_any _ _ _ _).mono ?_; rintro e w1 ⟨rfl, hb1⟩; obtain ⟨y0, y1, y2⟩ := fdCells ((hb1.block W.heap.size (by simp; omega)).trans HFd.out); obtain ⟨z0, z1⟩ := vlCells ((hb1.block (W.heap.size + 1) (by simp)).trans HVl.out))
        have hl1 : W.heap.size < w1.heap.size := by have := hb1.size; simp at this; omega
        have hl2 : W.heap.size + 1 < w1.heap.size := by have := hb1.size; simp at this; omega
        have HB1 := Lib.hid (HB.out.trans (hb1.mono HB.out.size))
        have HC0 := fun U (hU : Below w1.heap.size w1 U) => Lib.hid (fdCells ((hU.block W.heap.size hl1).trans ((hb1.block W.heap.size (by simp; omega)).trans HFd.out)))
        have HC1 := fun U (hU : Below w1.heap.size w1 U) => Lib.hid (vlCells ((hU.block (W.heap.size + 1) hl2).trans ((hb1.block (W.heap.size + 1) (by simp)).trans HVl.out)))
        clear hb1
        refine wp_region_quiet (C := fun U => Below w1.heap.size w1 U) (by kernel_rfl) (by kernel_rfl) (Below.refl _ _).drew ?_
        dsimp only
        go_big_quiet_want; go_big_quiet_op; first | go_big_quiet_on | (refine ⟨_, fun _ _ => rfl, ?_⟩; go_big_quiet_on)
        go_big_quiet_want; refine ⟨.int .i64 n, fun U hU => (by obtain ⟨e0, e1⟩ := (HC1 U hU).out; simp [Oper.quietAt, Oper.quietUpon, go_sem, e1]), ?_⟩; simp only [Act.put, List.setIfInBounds_toArray, List.set_cons_zero, List.set_cons_succ]; go_big_quiet_on
        go_big_quiet_want; refine ⟨.agg #[.int .i64 a, .int .i64 w, .bool g], fun U hU => (by obtain ⟨e0, e1, e2⟩ := (HC0 U hU).out; simp [Oper.quietAt, Oper.quietUpon, go_sem, e0, e1, e2]), ?_⟩; simp only [Act.put, List.setIfInBounds_toArray, List.set_cons_zero, List.set_cons_succ]; go_big_quiet_on
        go_big_quiet_want; go_big_quiet_op; refine ⟨_, fun U hU => quietCall hU (HL U), ?_⟩; go_big_quiet_on
        go_big_quiet_want; go_big_quiet_op; first | go_big_quiet_on | (refine ⟨_, fun _ _ => rfl, ?_⟩; go_big_quiet_on)
        go_big_quiet_want; go_big_quiet_op; first | go_big_quiet_on | (refine ⟨_, fun _ _ => rfl, ?_⟩; go_big_quiet_on)
        go_big_quiet_want; go_big_quiet_op; first | go_big_quiet_on | (refine ⟨_, fun _ _ => rfl, ?_⟩; go_big_quiet_on)
        go_big_quiet_want; refine ⟨.int .i64 n, fun U hU => (by obtain ⟨e0, e1⟩ := (HC1 U hU).out; simp [Oper.quietAt, Oper.quietUpon, go_sem, e1]), ?_⟩; simp only [Act.put, List.setIfInBounds_toArray, List.set_cons_zero, List.set_cons_succ]; go_big_quiet_on
        go_big_quiet_want; refine ⟨.agg #[.int .i64 a, .int .i64 w, .bool g], fun U hU => (by obtain ⟨e0, e1, e2⟩ := (HC0 U hU).out; simp [Oper.quietAt, Oper.quietUpon, go_sem, e0, e1, e2]), ?_⟩; simp only [Act.put, List.setIfInBounds_toArray, List.set_cons_zero, List.set_cons_succ]; go_big_quiet_on
        go_big_quiet_want; go_big_quiet_op; refine ⟨_, fun U hU => quietCall hU (HH U), ?_⟩; go_big_quiet_on
        go_big_quiet_want; go_big_quiet_op; first | go_big_quiet_on | (refine ⟨_, fun _ _ => rfl, ?_⟩; go_big_quiet_on)
        go_big_quiet_want; go_big_quiet_op; first | go_big_quiet_on | (refine ⟨_, fun _ _ => rfl, ?_⟩; go_big_quiet_on)
        go_big_quiet_want; go_big_quiet_op; first | go_big_quiet_on | (refine ⟨_, fun _ _ => rfl, ?_⟩; go_big_quiet_on)
        refine wpQuiet_nil ?_
        intro X hX
        go_wp2_with fail
        go_ret
        exact ⟨by rw [HO.out]; first | rfl | (unfold inB; rw [h2]; rfl), HB1.out.trans (hX.mono HB1.out.size)⟩
      · go_enter Try.func133, Try.ntmps133
        go_wp2_with (go_at_call 183; refine (implFieldRight_any _ _ _ _).mono ?_; rintro e w1 ⟨rfl, hb1⟩; obtain ⟨y0, y1, y2⟩ := fdCells ((hb1.block W.heap.size (by simp; omega)).trans HFd.out); obtain ⟨z0, z1⟩ := vlCells ((hb1.block (W.heap.size + 1) (by simp)).trans HVl.out))
        have hl1 : W.heap.size < w1.heap.size := by have := hb1.size; simp at this; omega
        have hl2 : W.heap.size + 1 < w1.heap.size := by have := hb1.size; simp at this; omega
        have HB1 := Lib.hid (HB.out.trans (hb1.mono HB.out.size))
        have HC0 := fun U (hU : Below w1.heap.size w1 U) => Lib.hid (fdCells ((hU.block W.heap.size hl1).trans ((hb1.block W.heap.size (by simp; omega)).trans HFd.out)))
        have HC1 := fun U (hU : Below w1.heap.size w1 U) => Lib.hid (vlCells ((hU.block (W.heap.size + 1) hl2).trans ((hb1.block (W.heap.size + 1) (by simp)).trans HVl.out)))
        clear hb1
        refine wp_region_quiet (C := fun U => Below w1.heap.size w1 U) (by kernel_rfl) (by kernel_rfl) (Below.refl _ _).drew ?_
        dsimp only
        go_big_quiet_want; go_big_quiet_op; first | go_big_quiet_on | (refine ⟨_, fun _ _ => rfl, ?_⟩; go_big_quiet_on)
        go_big_quiet_want; refine ⟨.int .i64 n, fun U hU => (by obtain ⟨e0, e1⟩ := (HC1 U hU).out; simp [Oper.quietAt, Oper.quietUpon, go_sem, e1]), ?_⟩; simp only [Act.put, List.setIfInBounds_toArray, List.set_cons_zero, List.set_cons_succ]; go_big_quiet_on
        go_big_quiet_want; refine ⟨.agg #[.int .i64 a, .int .i64 w, .bool g], fun U hU => (by obtain ⟨e0, e1, e2⟩ := (HC0 U hU).out; simp [Oper.quietAt, Oper.quietUpon, go_sem, e0, e1, e2]), ?_⟩; simp only [Act.put, List.setIfInBounds_toArray, List.set_cons_zero, List.set_cons_succ]; go_big_quiet_on
        go_big_quiet_want; go_big_quiet_op; refine ⟨_, fun U hU => quietCall hU (HL U), ?_⟩; go_big_quiet_on
        go_big_quiet_want; go_big_quiet_op; first | go_big_quiet_on | (refine ⟨_, fun _ _ => rfl, ?_⟩; go_big_quiet_on)
        go_big_quiet_want; go_big_quiet_op; first | go_big_quiet_on | (refine ⟨_, fun _ _ => rfl, ?_⟩; go_big_quiet_on)
        first | go_big_quiet_skip | (go_big_quiet_want; go_big_quiet_op; first | go_big_quiet_on | (refine ⟨_, fun _ _ => rfl, ?_⟩; go_big_quiet_on))
        first | go_big_quiet_skip | (go_big_quiet_want; go_big_quiet_op; first | go_big_quiet_on | (refine ⟨_, fun _ _ => rfl, ?_⟩; go_big_quiet_on))
        first | go_big_quiet_skip | (go_big_quiet_want; go_big_quiet_op; first | go_big_quiet_on | (refine ⟨_, fun _ _ => rfl, ?_⟩; go_big_quiet_on))
        first | go_big_quiet_skip | (go_big_quiet_want; go_big_quiet_op; first | go_big_quiet_on | (refine ⟨_, fun _ _ => rfl, ?_⟩; go_big_quiet_on))
        first | go_big_quiet_skip | (go_big_quiet_want; go_big_quiet_op; first | go_big_quiet_on | (refine ⟨_, fun _ _ => rfl, ?_⟩; go_big_quiet_on))
        first | go_big_quiet_skip | (go_big_quiet_want; go_big_quiet_op; first | go_big_quiet_on | (refine ⟨_, fun _ _ => rfl, ?_⟩; go_big_quiet_on))
        first | go_big_quiet_skip | (go_big_quiet_want; go_big_quiet_op; first | go_big_quiet_on | (refine ⟨_, fun _ _ => rfl, ?_⟩; go_big_quiet_on))
        refine wpQuiet_nil ?_
        intro X hX
        go_wp2_with fail
        go_ret
        exact ⟨by rw [HO.out]; first | rfl | (unfold inB; rw [h2]; rfl), HB1.out.trans (hX.mono HB1.out.size)⟩
    · have HO := Lib.hid (show valB a w g k n = (inB 2 3 k && ((n == 0) && decide (4 ≤ w))) from valB_else h1 hk)
      have hk1 : (k == 1) = false := decide_eq_false hk
      unfold fdV vlV at *
      by_cases hk2 : k = 2
      · subst hk2
        have h2 : inB 2 3 2 = true := rfl
        rcases Bool.eq_false_or_eq_true (n == 0) with h3 | h3
        all_goals
          go_enter Try.func133, Try.ntmps133
          go_wp2_with (go_at_call 183; refine (implFieldRight_any _ _ _ _).mono ?_; rintro e w1 ⟨rfl, hb1⟩; obtain ⟨y0, y1, y2⟩ := fdCells ((hb1.block W.heap.size (by simp; omega)).trans HFd.out); obtain ⟨z0, z1⟩ := vlCells ((hb1.block (W.heap.size + 1) (by simp)).trans HVl.out))
          go_ret
          exact ⟨by rw [HO.out, h2, h3]; rfl, HB.out.trans (hb1.mono HB.out.size)⟩
      · have hd2 : (k == 2) = false := decide_eq_false hk2
        by_cases hk3 : k = 3
        · subst hk3
          have h2 : inB 2 3 3 = true := rfl
          rcases Bool.eq_false_or_eq_true (n == 0) with h3 | h3
          all_goals
            go_enter Try.func133, Try.ntmps133
            go_wp2_with (go_at_call 183; refine (implFieldRight_any _ _ _ _).mono ?_; rintro e w1 ⟨rfl, hb1⟩; obtain ⟨y0, y1, y2⟩ := fdCells ((hb1.block W.heap.size (by simp; omega)).trans HFd.out); obtain ⟨z0, z1⟩ := vlCells ((hb1.block (W.heap.size + 1) (by simp)).trans HVl.out))
            go_ret
            exact ⟨by rw [HO.out, h2, h3]; rfl, HB.out.trans (hb1.mono HB.out.size)⟩
        · have h2 : inB 2 3 k = false := inB_no (by omega)
          have hd3 : (k == 3) = false := decide_eq_false hk3
          go_enter Try.func133, Try.ntmps133
          go_wp2_with (go_at_call 183; refine (implFieldRight_any _ _ _ _).mono ?_; rintro e w1 ⟨rfl, hb1⟩; obtain ⟨y0, y1, y2⟩ := fdCells ((hb1.block W.heap.size (by simp; omega)).trans HFd.out); obtain ⟨z0, z1⟩ := vlCells ((hb1.block (W.heap.size + 1) (by simp)).trans HVl.out))
          go_ret
          exact ⟨by rw [HO.out, h2]; rfl, HB.out.trans (hb1.mono HB.out.size)⟩
  · have HO := Lib.hid (valB_off (g := g) (k := k) (n := n) h1)
    unfold fdV vlV at *
    go_enter Try.func133, Try.ntmps133
    go_wp2_with (go_at_call 183; refine (implFieldRight_any _ _ _ _).mono ?_; rintro e w1 ⟨rfl, hb1⟩; obtain ⟨y0, y1, y2⟩ := fdCells ((hb1.block W.heap.size (by simp; omega)).trans HFd.out); obtain ⟨z0, z1⟩ := vlCells ((hb1.block (W.heap.size + 1) (by simp)).trans HVl.out))
    go_ret
    exact ⟨by rw [HO.out]; rfl, HB.out.trans (hb1.mono HB.out.size)⟩
end Go.Proofs.Ytanijfmfjabmfaa
