/- What is put is got back: bits, and a Field's Value. Over lists and numbers alone. -/
import Derived.Test.YtanijfmfjabmfaaBitsVal4
namespace Go.Proofs.Ytanijfmfjabmfaa
open Go.RowKit
set_option linter.unusedVariables false

theorem putI_len {s : ByteArray} {a w n : Int} (h : ¬ 8000 < s.size) : (putI s a w n).length = s.size := by
  unfold putI
  rw [if_neg h]
  split
  · exact putB_length _ _
  · rfl
theorem fputI_len {s : ByteArray} {a w k n : Int} {g : Bool} (h : ¬ 8000 < s.size) : (fputI s a w g k n).length = s.size := by
  unfold fputI
  rw [if_neg h]
  split
  · exact putB_length _ _
  · rfl
theorem hasB_size {s t : ByteArray} {a w : Int} (h : t.size = s.size) : hasB t a w = hasB s a w := by unfold hasB; rw [h]
theorem size_mk (l : List UInt8) : (ByteArray.mk l.toArray).size = l.length := by
  show l.toArray.size = _
  simp
theorem nat_of_pow {w : Nat} {n : Int} (h0 : 0 ≤ n) (h1 : n < powI (w : Int)) : n.toNat < 2 ^ w := by
  unfold powI at h1
  simp only [Int.toNat_natCast] at h1
  omega
theorem get_back {s : ByteArray} {a w : Nat} {n : Int} (hs : ¬ 8000 < s.size) (hh : hasB s a w = true) (hin : a + w ≤ 8 * s.size) (h0 : 0 ≤ n) (h1 : n < powI (w : Int)) :
    getI ⟨(putI s a w n).toArray⟩ a w = n := by
  have hl := putI_len (a := (a : Int)) (w := w) (n := n) hs
  have hz : (ByteArray.mk (putI s a w n).toArray).size = s.size := (size_mk _).trans hl
  have hh2 : hasB ⟨(putI s a w n).toArray⟩ a w = true := (hasB_size hz).trans hh
  obtain ⟨m, rfl⟩ := Int.eq_ofNat_of_zero_le h0
  have hm := nat_of_pow h0 h1
  rw [getI_on (by rw [hz]; exact hs) hh2]
  rw [putI_on hs hh (inB_yes h0 (by omega))]
  have := get_put s.data.toList (a := a) (w := w) (n := m) hin (by simpa using hm)
  have e : (ByteArray.mk (putB (putBit s.data.toList a w m) s.size).toArray).data.toList = putB (putBit s.data.toList a w m) s.size := by simp
  rw [e]
  have e2 : s.data.toList.length = s.size := rfl
  rw [e2] at this
  rw [this]
theorem put_back2 {s : ByteArray} {a w : Nat} {n : Int} (hs : ¬ 8000 < s.size) (hh : hasB s a w = true) (hin : a + w ≤ 8 * s.size) (h0 : 0 ≤ n) (h1 : n < powI (w : Int)) :
    putI ⟨(putI s a w n).toArray⟩ a w (getI s a w) = s.data.toList := by
  have hl := putI_len (a := (a : Int)) (w := w) (n := n) hs
  have hz : (ByteArray.mk (putI s a w n).toArray).size = s.size := (size_mk _).trans hl
  have hh2 : hasB ⟨(putI s a w n).toArray⟩ a w = true := (hasB_size hz).trans hh
  obtain ⟨m, rfl⟩ := Int.eq_ofNat_of_zero_le h0
  rw [getI_on hs hh]
  have hlt := numOf_powI (l := s.data.toList) (a := a) (w := w)
  rw [putI_on (by rw [hz]; exact hs) hh2 (inB_yes (by omega) (by omega)), hz]
  rw [putI_on hs hh (inB_yes h0 (by omega))]
  have e : (ByteArray.mk (putB (putBit s.data.toList a w m) s.size).toArray).data.toList = putB (putBit s.data.toList a w m) s.size := by simp
  rw [e]
  exact put_back s.data.toList (a := a) (w := w) (n := m) hin
theorem sign_bits {a w T : Int} {g : Bool} (hf : fieldB a w = true) (h0 : lowI a w g ≤ T) (h1 : T ≤ topI w g) {N : Nat} (hN : bitsI w T = (N : Int)) : signI w g (N : Int) = T := by
  obtain ⟨_, _, hw0, hw1⟩ := fieldB_of hf
  have h5 := powI_step hw0
  have h6 := powI_pos (w - 1)
  rw [← hN]
  unfold signI bitsI
  cases g
  · rw [lowI_plain] at h0
    rw [if_neg (show ¬ T < 0 by omega), if_neg (by omega)]
  · rw [lowI_on hf] at h0
    have ht : topI w true = powI (w - 1) - 1 := rfl
    rw [ht] at h1 ⊢
    by_cases hT : T < 0
    · rw [if_pos hT, if_pos (by omega)]; omega
    · rw [if_neg hT, if_neg (by omega)]
theorem mean_tell {a w k n : Int} {g : Bool} (h : valB a w g k n = true) : meanI w g (tellI w g k n) = (k, n) := by
  have hf := valB_field h
  by_cases hk : k = 1
  · subst hk
    have e : tellI w g 1 n = n := rfl
    rw [valB_num hf] at h
    rw [e, mean_num hf (inB_of h).2]
  · rw [valB_else hf hk] at h
    simp only [Bool.and_eq_true, decide_eq_true_eq] at h
    obtain ⟨hk2, hn, hw4⟩ := h
    have hk3 := inB_of hk2
    subst hn
    by_cases h2 : k = 2
    · subst h2
      rw [tell_none, mean_top hw4 rfl]
    · have h3 : k = 3 := by omega
      subst h3
      rw [tell_err, mean_less hw4 (by omega) rfl]
theorem value_back {s : ByteArray} {a w k n : Int} {g : Bool} (hs : ¬ 8000 < s.size) (hv : valB a w g k n = true) (hh : hasB s a w = true) : fgetI ⟨(fputI s a w g k n).toArray⟩ a w g = (k, n) := by
  have hf := valB_field hv
  have hz : (ByteArray.mk (fputI s a w g k n).toArray).size = s.size := (size_mk _).trans (fputI_len hs)
  have hh2 : hasB ⟨(fputI s a w g k n).toArray⟩ a w = true := (hasB_size hz).trans hh
  obtain ⟨x, y, rfl, rfl, k1, k2, k3, k4⟩ := bits_nat2 hh
  have hb := bits_in hv
  have ht := tell_in hv
  rw [fget_on (by rw [hz]; exact hs) hh2, fput_on hs hv hh]
  obtain ⟨N, hN⟩ : ∃ N : Nat, bitsI y (tellI y g k n) = (N : Int) := ⟨(bitsI y (tellI y g k n)).toNat, by omega⟩
  have hNt : (bitsI y (tellI y g k n)).toNat = N := by rw [hN]; rfl
  rw [hNt]
  have hlt : N < 2 ^ y := by
    have := nat_of_pow (w := y) (n := (N : Int)) (by omega) (by omega)
    simpa using this
  have e : (ByteArray.mk (putB (putBit s.data.toList x y N) s.size).toArray).data.toList = putB (putBit s.data.toList x y N) s.size := by simp
  have := get_put s.data.toList (a := x) (w := y) (n := N) k4 hlt
  have e2 : s.data.toList.length = s.size := rfl
  rw [e2] at this
  rw [e, this, sign_bits hf ht.1 ht.2 hN, mean_tell hv]
end Go.Proofs.Ytanijfmfjabmfaa
