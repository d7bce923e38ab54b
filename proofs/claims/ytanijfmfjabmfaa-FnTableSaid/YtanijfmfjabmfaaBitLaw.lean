/- The laws of 'or', 'and' and of shifts at int64 and at a byte that bits of a text want. -/
import Derived.Test.YtanijfmfjabmfaaBitMath
import Derived.Laws.BitsAllLaws
import Derived.Laws.Shifts
import Derived.IntWalk
namespace Go.Proofs.Ytanijfmfjabmfaa
open Go.RowKit
set_option linter.unusedVariables false

theorem wraps_i64 (n : Int) (h0 : 0 ≤ n) (h1 : n < 2 ^ 63) : IntKind.i64.wrap n = n := IntWalk.i64_in n (by omega)
theorem i64_join (e : Nat) {x c p : Int} (hp : p = ((2 ^ e : Nat) : Int)) (h0 : 0 ≤ x) (h1 : x < p) (h2 : 0 ≤ c) (h3 : x + c * p ≤ 9223372036854775807) : bits .or .i64 x (c * p) = x + c * p := by
  have hc : bits .or .i64 x (c * p) = bits .or .i64 (c * p) x := by simp only [bits, BitVec.or_comm]
  have hpp : (0 : Int) ≤ p := by omega
  have hcp : 0 ≤ c * p := Int.mul_nonneg h2 hpp
  rw [hc, bits_join .i64 63 (by decide) wraps_i64 e (c * p) x hcp (by rw [hp]; simp) (by omega) h0 (by rw [hp] at h1; simpa using h1) (by omega)]
  omega
theorem u8_join (e : Nat) {x c p : Int} (hp : p = ((2 ^ e : Nat) : Int)) (h0 : 0 ≤ x) (h1 : x < p) (h2 : 0 ≤ c) (h3 : x + c * p ≤ 255) : bits .or .u8 x (c * p) = x + c * p := by
  have hc : bits .or .u8 x (c * p) = bits .or .u8 (c * p) x := by simp only [bits, BitVec.or_comm]
  have hpp : (0 : Int) ≤ p := by omega
  have hcp : 0 ≤ c * p := Int.mul_nonneg h2 hpp
  rw [hc, bits_join .u8 8 (by decide) wraps_u8 e (c * p) x hcp (by rw [hp]; simp) (by omega) h0 (by rw [hp] at h1; simpa using h1) (by omega)]
  omega
/-- Two's complement: the lowest bits of a number. -/
theorem i64_mask (n : Int) (e : Nat) (he : e ≤ 62) (h0 : -9223372036854775808 ≤ n) (h1 : n ≤ 9223372036854775807) : bits .and .i64 n ((2 : Int) ^ e - 1) = n % 2 ^ e := by
  have hpos : 0 < 2 ^ e := Nat.two_pow_pos e
  have hle : 2 ^ e ≤ 2 ^ 62 := Nat.pow_le_pow_right (by decide) he
  have hc : ((2 : Int) ^ e - 1) = ((2 ^ e - 1 : Nat) : Int) := by
    rw [Int.natCast_sub hpos]; simp
  have hm : (BitVec.ofInt 64 ((2 ^ e - 1 : Nat) : Int)).toNat = 2 ^ e - 1 := by
    rw [BitVec.ofInt_natCast, BitVec.toNat_ofNat]
    exact Nat.mod_eq_of_lt (by omega)
  have key : (BitVec.ofInt 64 n &&& BitVec.ofInt 64 ((2 ^ e - 1 : Nat) : Int)).toNat = (n % ((2 ^ 64 : Nat) : Int)).toNat % 2 ^ e := by
    rw [BitVec.toNat_and, BitVec.toNat_ofInt, hm, Nat.and_two_pow_sub_one_eq_mod]
  rw [hc]
  show IntKind.i64.wrap ((BitVec.ofInt 64 n &&& BitVec.ofInt 64 ((2 ^ e - 1 : Nat) : Int)).toNat : Nat) = n % 2 ^ e
  rw [key]
  have hd : (2 ^ e) ∣ (2 ^ 64) := Nat.pow_dvd_pow 2 (by omega)
  have hlt : (n % ((2 ^ 64 : Nat) : Int)).toNat % 2 ^ e < 2 ^ e := Nat.mod_lt _ hpos
  rw [IntWalk.i64_in _ (by omega)]
  have h64 : 0 ≤ n % ((2 ^ 64 : Nat) : Int) := Int.emod_nonneg _ (by decide)
  rw [Int.natCast_emod, Int.toNat_of_nonneg h64]
  rw [Int.emod_emod_of_dvd n (by exact_mod_cast hd)]
  simp
theorem mask_bits {n w : Int} (hw : 1 ≤ w) (h0 : -(powI (w - 1)) ≤ n) (h1 : n ≤ powI w - 1) : n % powI w = bitsI w n := by
  have h2 := powI_step hw
  have h3 := powI_pos (w - 1)
  unfold bitsI
  split
  · rw [← Int.add_emod_right]
    exact Int.emod_eq_of_lt (by omega) (by omega)
  · exact Int.emod_eq_of_lt (by omega) (by omega)
/-- A power, as a shift spells it. -/
theorem shl_pow (w : Int) (h0 : 0 ≤ w) (h1 : w ≤ 62) : IntKind.i64.wrap (1 * 2 ^ min w.toNat 64) = powI w := by
  have hm : min w.toNat 64 = w.toNat := by omega
  have h2 : 2 ^ w.toNat ≤ 2 ^ 62 := Nat.pow_le_pow_right (by decide) (by omega)
  rw [hm, Int.one_mul]
  have e : (2 : Int) ^ w.toNat = ((2 ^ w.toNat : Nat) : Int) := by simp
  rw [e]
  unfold powI
  generalize 2 ^ w.toNat = p at *
  exact IntWalk.i64_in _ (by omega)
end Go.Proofs.Ytanijfmfjabmfaa
