/- Whether a Field is right, its least and greatest numbers, and whether it can tell a Value: the program's and the model's. Nothing that was there is written. -/
import Derived.Test.YtanijfmfjabmfaaBitLaw
import Derived.Test.YtanijfmfjabmfaaLong
import Derived.Deep.RegionWith
import Derived.BigQuiet
namespace Go.Proofs.Ytanijfmfjabmfaa
open Go.RowKit
set_option linter.unusedVariables false

/-- A Field's value. -/
def fdV (a w : Int) (g : Bool) : Value := .agg #[.int .i64 a, .int .i64 w, .bool g]
theorem fieldB_split (a w : Int) : fieldB a w = (inB 0 1800 a && (decide (1 ≤ w) && decide (w ≤ 32))) := rfl

theorem specFieldRight_any (a w : Int) (g : Bool) (W : World) :
    Calls Try.prog 186 #[fdV a w g] W fun e W' => e = .returned (.bool (fieldB a w)) ∧ Below W.heap.size W W' := by
  have hb : Below W.heap.size W (W.alloc (.cells #[.int .i64 a, .int .i64 w, .bool g] 77)) := (Below.refl _ _).alloc (Nat.le_refl _) _
  unfold fdV
  rcases Bool.eq_false_or_eq_true (inB 0 1800 a) with h1 | h1
  all_goals
    go_enter Try.func186, Try.ntmps186
    go_wp2_with (go_at_call 87; refine (l02Is_any _ _ _ _).mono ?_; rintro e w' ⟨rfl, rfl⟩)
    go_ret
    exact ⟨by simp [fieldB, h1], hb⟩
theorem implFieldRight_any (a w : Int) (g : Bool) (W : World) :
    Calls Try.prog 183 #[fdV a w g] W fun e W' => e = .returned (.bool (fieldB a w)) ∧ Below W.heap.size W W' := by
  have hb : Below W.heap.size W (W.alloc (.cells #[.int .i64 a, .int .i64 w, .bool g] 77)) := (Below.refl _ _).alloc (Nat.le_refl _) _
  unfold fdV
  rcases Bool.eq_false_or_eq_true (inB 0 1800 a) with h1 | h1
  · rcases Bool.eq_false_or_eq_true (decide (1 ≤ w)) with h2 | h2
    all_goals
      go_enter Try.func183, Try.ntmps183
      go_wp2_with (go_at_call 81; refine (from0_any _ _ _).mono ?_; rintro e w' ⟨rfl, rfl⟩)
      go_ret
      exact ⟨by rw [fieldB_split]; simp [h1, h2], hb⟩
  · go_enter Try.func183, Try.ntmps183
    go_wp2_with (go_at_call 81; refine (from0_any _ _ _).mono ?_; rintro e w' ⟨rfl, rfl⟩)
    go_ret
    exact ⟨by rw [fieldB_split]; simp [h1], hb⟩
theorem hasB_off {s : ByteArray} {a w : Int} (h : fieldB a w = false) : hasB s a w = false := by simp [hasB, h]
theorem implHasBits_any (s : ByteArray) (a w : Int) (W : World) (hs : s.size ≤ 1000000) :
    Calls Try.prog 175 #[.string s, .int .i64 a, .int .i64 w] W fun e W' => e = .returned (.bool (hasB s a w)) ∧ Below W.heap.size W W' := by
  have HF := fun W => implFieldRight_any a w false W
  rcases Bool.eq_false_or_eq_true (fieldB a w) with h1 | h1
  · have hf := fieldB_of h1
    go_enter Try.func175, Try.ntmps175
    go_wp2_with (go_at_call 183; refine (HF _).mono ?_; rintro e w' ⟨rfl, hb⟩)
    go_ret
    exact ⟨by simp [hasB, h1], hb⟩
  · go_enter Try.func175, Try.ntmps175
    go_wp2_with (go_at_call 183; refine (HF _).mono ?_; rintro e w' ⟨rfl, hb⟩)
    go_ret
    exact ⟨by rw [hasB_off h1]; rfl, hb⟩
/-- Two to a power, turn by turn. -/
theorem l07Pow_any (k : Int) (W : World) (h0 : 0 ≤ k) (h1 : k ≤ 32) :
    Calls Try.prog 181 #[.int .i64 k] W fun e W' => e = .returned (.int .i64 (powI k)) ∧ W = W' := by
  obtain ⟨m, rfl⟩ := Int.eq_ofNat_of_zero_le h0
  have hm : m ≤ 32 := by omega
  clear h0 h1
  go_enter Try.func181, Try.ntmps181
  go_wp2_with fail
  go_loopw [0, 3] (fun i n wr => ∃ j p : Nat, i = .int .i64 (j : Int) ∧ n = .int .i64 (p : Int) ∧ j ≤ m ∧ p * 2 ^ j = 2 ^ m ∧ p ≤ 4294967296 ∧ W = wr) (fun i _ _ => (intOf i).toNat)
  case atStart => exact ⟨m, 1, rfl, rfl, Nat.le_refl _, by simp, by decide, rfl⟩
  case round =>
    obtain ⟨j, p, rfl, rfl, hj, hp, hp2, rfl⟩ := hrel
    rcases j with _ | j
    · have e : powI (m : Int) = (p : Int) := by
        unfold powI
        rw [Int.toNat_natCast, ← hp]
        simp
      go_wp2
      go_ret
      exact ⟨by rw [e]; rfl, rfl⟩
    · have hd : (0 : Int) < ((j + 1 : Nat) : Int) := by omega
      go_wp2
      go_roundw
      case rel =>
        refine ⟨j, 2 * p, by go_num, by go_num, by omega, ?_, ?_, by first | rfl | trivial⟩
        · rw [← hp, Nat.pow_succ, Nat.mul_comm 2 p, Nat.mul_assoc, Nat.mul_comm 2]
        · have h2 : 2 * p * 2 ^ j = 2 ^ m := by rw [← hp, Nat.pow_succ, Nat.mul_comm 2 p, Nat.mul_assoc, Nat.mul_comm 2]
          have h3 := pow_le32 hm
          have h4 : 2 * p ≤ 2 * p * 2 ^ j := Nat.le_mul_of_pos_right _ (Nat.two_pow_pos j)
          omega
      case measure => first | (simp [intOf]; omega) | simp [intOf]
end Go.Proofs.Ytanijfmfjabmfaa
