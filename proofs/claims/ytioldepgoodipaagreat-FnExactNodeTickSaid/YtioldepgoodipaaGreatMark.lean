/- The laws' own markText: an m and the digits of a number. Nothing that was there is written. -/
import Derived.Test.YtioldepgoodipaaGreatOwn
import Derived.Laws.IdiomStrings
namespace Go.Proofs.YtioldepgoodipaaGreat
open Go.RowKit
set_option linter.unusedVariables false

/-- The digits of k, ahead of acc. -/
def digL (k : Nat) (acc : List UInt8) : List UInt8 := if h : k = 0 then acc else digL (k / 10) (UInt8.ofNat (48 + k % 10) :: acc)
termination_by k
decreasing_by omega
theorem digL_zero (acc : List UInt8) : digL 0 acc = acc := by rw [digL]; simp
theorem digL_pos {k : Nat} (h : 0 < k) (acc : List UInt8) : digL k acc = digL (k / 10) (UInt8.ofNat (48 + k % 10) :: acc) := by rw [digL, dif_neg (by omega)]
/-- What markText answers. -/
def markT (k : Nat) : ByteArray := ⟨(109 :: digL k []).toArray⟩

set_option maxHeartbeats 1000000 in
theorem markText_any (k : Nat) (w : World) (h0 : 0 < k) (h1 : k ≤ 30000000) :
    Calls Tryz.prog 115 #[.int .i64 (k : Int)] w fun e w' => e = .returned (.string (markT k)) ∧ Below w.heap.size w w' := by
  have hd : decide ((k : Int) ≤ 0) = false := decide_eq_false (by omega)
  have HB := fun (W : World) (b : Int) (b0 : 0 ≤ b) (b1 : b ≤ 255) => Lib.hid (conv_row (P := Tryz.prog) (heap_alloc_new W (.cells #[.int .u8 b] 5)) (l := [UInt8.ofNat b.toNat]) 1 rfl (by simp [bcells]; omega) 153 9 Tryz.underlying153 Tryz.underlying5 Tryz.underlying9)
  go_enter Tryz.func115, Tryz.ntmps115
  go_wp2_with fail
  go_loopw [0, 3] (fun n t wr => ∃ (m : Nat) (acc : List UInt8), n = .int .i64 (m : Int) ∧ t = .string ⟨acc.toArray⟩ ∧ (acc.length ≤ 9 ∧ m < 10 ^ (9 - acc.length)) ∧ digL m acc = digL k [] ∧ Below w.heap.size w wr) (fun n _ _ => (intOf n).toNat)
  case atStart => exact ⟨k, [], rfl, rfl, ⟨by simp, Nat.lt_of_le_of_lt h1 (by decide)⟩, rfl, Below.refl _ _⟩
  case round =>
    obtain ⟨m, acc, rfl, rfl, ⟨hm, hm10⟩, hdig, hb⟩ := hrel
    have hmk : m < 10 ^ 9 := Nat.lt_of_lt_of_le hm10 (Nat.pow_le_pow_right (by decide) (by omega))
    have HD := Lib.hid hdig
    clear hdig
    by_cases hm0 : 0 < m
    · have hd2 : decide (0 < (m : Int)) = true := decide_eq_true (by omega)
      have hm9 : acc.length ≤ 8 := by
        rcases Nat.lt_or_ge acc.length 9 with h | h
        · omega
        · rw [show 9 - acc.length = 0 by omega] at hm10
          omega
      have hm11 : m / 10 < 10 ^ (9 - (acc.length + 1)) := by
        refine Nat.div_lt_of_lt_mul ?_
        rw [Nat.mul_comm, ← Nat.pow_succ, show (9 - (acc.length + 1)).succ = 9 - acc.length by omega]
        exact hm10
      have HM11 := Lib.hid hm11
      clear hm10 hm11
      have HS := Lib.hid ((digL_pos hm0 acc).symm.trans HD.out)
      have hcv := (HB wr (48 + ((m : Int) % 10)) (by omega) (by omega)).out
      have e1 : (48 + ((m : Int) % 10)).toNat = 48 + m % 10 := by omega
      rw [e1] at hcv
      have hsz : (ByteArray.mk [UInt8.ofNat (48 + m % 10)].toArray).size = 1 := rfl
      have hsz2 : (ByteArray.mk acc.toArray).size = acc.length := by show acc.toArray.size = _; simp
      have hadd := run_string_add (P := Tryz.prog) (w := wr.alloc (.cells #[.int .u8 (48 + ((m : Int) % 10))] 5)) ⟨[UInt8.ofNat (48 + m % 10)].toArray⟩ ⟨acc.toArray⟩ (by rw [hsz]; omega) (by rw [hsz2]; omega)
      have hap : (ByteArray.mk [UInt8.ofNat (48 + m % 10)].toArray) ++ (ByteArray.mk acc.toArray) = ⟨(UInt8.ofNat (48 + m % 10) :: acc).toArray⟩ := by rw [ByteArray.mk_append_mk]; simp
      rw [hap] at hadd
      clear hap hsz hsz2 e1 HD HB
      generalize UInt8.ofNat (48 + m % 10) = c at *
      go_wp2_with fail
      go_roundw
      case rel => exact ⟨m / 10, c :: acc, by go_num, rfl, ⟨by simp; omega, by simpa using HM11.out⟩, HS.out, hb.alloc hb.size _⟩
      case measure => simp [intOf]; omega
    · have hd2 : decide (0 < (m : Int)) = false := decide_eq_false (by omega)
      obtain rfl : m = 0 := by omega
      have HO := Lib.hid (show acc = digL k [] from (digL_zero acc).symm.trans HD.out)
      have hsz2 : (ByteArray.mk acc.toArray).size = acc.length := by show acc.toArray.size = _; simp
      have hadd := run_string_add (P := Tryz.prog) (w := wr) ⟨#[109]⟩ ⟨acc.toArray⟩ (by show (1 : Int) ≤ _; omega) (by rw [hsz2]; omega)
      have hap : (ByteArray.mk #[109]) ++ (ByteArray.mk acc.toArray) = ⟨(109 :: acc).toArray⟩ := by rw [ByteArray.mk_append_mk]; simp
      rw [hap] at hadd
      clear hap hsz2 HB HD
      go_wp2_with fail
      go_ret
      exact ⟨by unfold markT; rw [← HO.out]; rfl, hb⟩
end Go.Proofs.YtioldepgoodipaaGreat
