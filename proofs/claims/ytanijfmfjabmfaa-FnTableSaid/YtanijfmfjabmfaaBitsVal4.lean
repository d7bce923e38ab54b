/- What a Field tells out of a text, and the text with a Value in it: FieldGet and FieldPut, the program's and the model's. Nothing that was there is written. -/
import Derived.Test.YtanijfmfjabmfaaBitsVal3
namespace Go.Proofs.Ytanijfmfjabmfaa
open Go.RowKit
set_option linter.unusedVariables false

theorem fget_big {s : ByteArray} {a w : Int} {g : Bool} (h : 8000 < s.size) : fgetI s a w g = (0, 0) := if_pos h
theorem fget_off {s : ByteArray} {a w : Int} {g : Bool} (h : hasB s a w = false) : fgetI s a w g = (0, 0) := by
  unfold fgetI
  rw [h]
  split <;> rfl
theorem fget_on {s : ByteArray} {a w : Nat} {g : Bool} (h : ¬ 8000 < s.size) (h2 : hasB s a w = true) : fgetI s a w g = meanI w g (signI w g (numOf (bitL s.data.toList) a w : Nat)) := by
  unfold fgetI
  rw [if_neg h, if_pos h2]
  simp
theorem sign_le {w : Int} {m : Nat} {g : Bool} (h0 : 1 ≤ w) (h1 : w ≤ 32) (h : (m : Int) < powI w) : signI w g m ≤ topI w g := by
  have := topI_in g h0 h1
  unfold signI
  split <;> omega
theorem twoKept {U w1 : World} {R : Nat} {a w : Int} {g : Bool} {T : TypeId} (hb : Below U.heap.size U w1) (hR : R < U.heap.size) (h : U.heap[R]? = some (.cells #[.int .i64 a, .int .i64 w, .bool g] T (0, 0))) :
    w1.cell? ⟨R, 0, none⟩ = some (.int .i64 a) ∧ w1.cell? ⟨R, 1, none⟩ = some (.int .i64 w) ∧ w1.cell? ⟨R, 2, none⟩ = some (.bool g) := fdCells ((hb.block R hR).trans h)
theorem fput_big {s : ByteArray} {a w k n : Int} {g : Bool} (h : 8000 < s.size) : fputI s a w g k n = [] := if_pos h
theorem fput_off {s : ByteArray} {a w k n : Int} {g : Bool} (h : ¬ 8000 < s.size) (h2 : valB a w g k n = false) : fputI s a w g k n = s.data.toList := by
  unfold fputI
  rw [if_neg h, h2]
  rfl
theorem fput_off2 {s : ByteArray} {a w k n : Int} {g : Bool} (h : ¬ 8000 < s.size) (h2 : hasB s a w = false) : fputI s a w g k n = s.data.toList := by
  unfold fputI
  rw [if_neg h, h2, Bool.and_false]
  rfl
theorem fput_on {s : ByteArray} {a w : Nat} {k n : Int} {g : Bool} (h : ¬ 8000 < s.size) (h2 : valB a w g k n = true) (h3 : hasB s a w = true) : fputI s a w g k n = putB (putBit s.data.toList a w (bitsI w (tellI w g k n)).toNat) s.size := by
  unfold fputI
  rw [if_neg h, h2, h3]
  simp
theorem valB_field {a w k n : Int} {g : Bool} (h : valB a w g k n = true) : fieldB a w = true := by
  unfold valB at h
  simp only [Bool.and_eq_true] at h
  exact h.1
theorem and_pow {T w : Int} (hw : 1 ≤ w) (hw2 : w ≤ 32) (h0 : -4294967296 ≤ T) (h1 : T ≤ 4294967296) : bits .and .i64 T (powI w - 1) = T % powI w := by
  have e : (2 : Int) ^ w.toNat = ((2 ^ w.toNat : Nat) : Int) := by simp
  obtain ⟨k, hk⟩ : ∃ k, w.toNat = k := ⟨_, rfl⟩
  have hk2 : k ≤ 62 := by omega
  unfold powI
  rw [← e, hk]
  exact i64_mask T k hk2 (by omega) (by omega)
/-- The number by which a Field tells a right Value is one of its own. -/
theorem tell_in {a w k n : Int} {g : Bool} (h : valB a w g k n = true) : lowI a w g ≤ tellI w g k n ∧ tellI w g k n ≤ topI w g := by
  have hf := valB_field h
  obtain ⟨_, _, h0, h1⟩ := fieldB_of hf
  have ht := topI_in g h0 h1
  have hl := lowI_in g hf
  by_cases hk : k = 1
  · subst hk
    rw [valB_num hf] at h
    have hb := inB_of h
    have e : tellI w g 1 n = n := rfl
    rw [e]
    rw [highI_on hf] at hb
    split at hb <;> omega
  · rw [valB_else hf hk] at h
    simp only [Bool.and_eq_true, decide_eq_true_eq] at h
    obtain ⟨hk2, _, hw4⟩ := h
    have hk3 := inB_of hk2
    have h4 := powI_four hw4
    have h5 := powI_step h0
    have h6 : 1 ≤ topI w g := by
      unfold topI
      split <;> omega
    unfold tellI
    split
    · omega
    · rw [if_pos (by omega)]; omega
theorem bits_in {a w k n : Int} {g : Bool} (h : valB a w g k n = true) : 0 ≤ bitsI w (tellI w g k n) ∧ bitsI w (tellI w g k n) ≤ powI w - 1 ∧ -(powI (w - 1)) ≤ tellI w g k n ∧ tellI w g k n ≤ powI w - 1 := by
  have hf := valB_field h
  obtain ⟨_, _, h0, h1⟩ := fieldB_of hf
  have h2 := tell_in h
  have h5 := powI_step h0
  have h6 := powI_pos (w - 1)
  have h7 : topI w g ≤ powI w - 1 := by unfold topI; split <;> omega
  have h8 : -(powI (w - 1)) ≤ lowI a w g := by
    cases g
    · rw [lowI_plain]; omega
    · rw [lowI_on hf]; exact Int.le_refl _
  unfold bitsI
  split <;> omega
/-- As a put of bits. -/
theorem fput_put {s : ByteArray} {a w k n : Int} {g : Bool} (h : ¬ 8000 < s.size) (h2 : valB a w g k n = true) : putI s a w (bitsI w (tellI w g k n)) = fputI s a w g k n := by
  have hb := bits_in h2
  unfold putI fputI
  rw [if_neg h, if_neg h, h2, inB_yes hb.1 hb.2.1, Bool.and_true, Bool.true_and]
end Go.Proofs.Ytanijfmfjabmfaa
