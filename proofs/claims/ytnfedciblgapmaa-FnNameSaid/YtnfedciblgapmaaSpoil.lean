/- A text that a draw has spoilt: at most one byte longer. Nothing that was there is written, but the source. -/
import Derived.Test.YtnfedciblgapmaaDraw
namespace Go.Proofs.Ytnfedciblgapmaa
open Go.RowKit
set_option linter.unusedVariables false
section
variable {w u u' : World} {S : Nat} {a : Option Addr} {len cap : Nat} {zs : List Int}
/-- A drawn text of a bounded length. -/
def NextS (w : World) (S : Nat) (a : Option Addr) (len cap : Nat) (zs : List Int) (most : Nat) (u : World) (e : Ending) (u' : World) : Prop :=
  ∃ s : ByteArray, e = .returned (.string s) ∧ s.size ≤ most ∧ Dr w S a len cap zs u' ∧ u.grownBy u' (some S)
set_option maxHeartbeats 4000000 in
theorem spoil_next (h : Dr w S a len cap zs u) (t : ByteArray) (ht : t.size ≤ 1000000) : Calls Try.prog 27 #[.pointer (some ⟨S, 0, none⟩), .string t] u (NextS w S a len cap zs (t.size + 1) u) := by
  have hS := h.src.lt
  have HB := fun (W : World) (b : Int) (b0 : 0 ≤ b) (b1 : b ≤ 255) => Lib.hid (conv_row (P := Try.prog) (heap_alloc_new W (.cells #[.int .u8 b] 5)) (l := [UInt8.ofNat b.toNat]) 1 rfl (by simp [bcells]; omega) 22 9 Try.underlying22 Try.underlying5 Try.underlying9)
  have hw1 : IntKind.i64.wrap ((t.size : Int) + 1) = t.size + 1 := IntWalk.i64_in _ (by omega)
  go_enter Try.func27, Try.ntmps27
  go_wp2_with fail
  refine (n_next h ((t.size : Int) + 1) (by omega)).mono ?_
  rintro e u1 ⟨k, rfl, k0, km, h1, g1⟩
  have hk : k ≤ (t.size : Int) := by omega
  clear km
  go_wp2_with fail
  refine (n_next h1 17 (by omega)).mono ?_
  rintro e u2 ⟨j, rfl, j0, jm, h2, g2⟩
  have hj : j < 17 := by omega
  clear jm
  have hb := byteAt_get ⟨#[32, 10, 48, 97, 45, 110, 44, 58, 93, 255, 40, 120, 126, 49, 128, 225, 59]⟩ j.toNat (by show j.toNat < 17; omega)
  have c0 := byteAt_lo ⟨#[32, 10, 48, 97, 45, 110, 44, 58, 93, 255, 40, 120, 126, 49, 128, 225, 59]⟩ j.toNat
  have c1 := byteAt_hi ⟨#[32, 10, 48, 97, 45, 110, 44, 58, 93, 255, 40, 120, 126, 49, 128, 225, 59]⟩ j.toNat
  generalize byteAt ⟨#[32, 10, 48, 97, 45, 110, 44, 58, 93, 255, 40, 120, 126, 49, 128, 225, 59]⟩ j.toNat = c at *
  have hcv := (HB u2 c c0 c1).out
  obtain ⟨x, hx⟩ : ∃ x : ByteArray, x = ⟨[UInt8.ofNat c.toNat].toArray⟩ := ⟨_, rfl⟩
  have hx1 : x.size ≤ 1 := by rw [hx]; simp [ByteArray.size]
  rw [← hx] at hcv
  clear hx HB
  have h3 := h2.alloc (.cells #[.int .u8 c] 5)
  have g3 := grownBy_alloc (grownBy_trans g1 g2) (.cells #[.int .u8 c] 5)
  obtain ⟨q, rfl⟩ := Int.eq_ofNat_of_zero_le k0
  have hq : q ≤ t.size := by omega
  clear k0
  have hi1 : (0 : Int) ≤ (q : Int) := by omega
  have hi2 : (q : Int) ≤ (t.size : Int) := by omega
  by_cases he : q = t.size
  · have hd : ((q : Int) == (t.size : Int)) = true := beq_iff_eq.2 (by omega)
    go_wp2_with fail
    go_quiet (fail)
    go_wp2
    go_ret
    exact ⟨_, rfl, by simp; omega, h3.drewN _, grownBy_drewN g3 _⟩
  · have hd : ((q : Int) == (t.size : Int)) = false := beq_eq_false_iff_ne.2 (by omega)
    have hq1 : q < t.size := by omega
    have hi3 : (q : Int) + 1 ≤ (t.size : Int) := by omega
    have hi4 : (0 : Int) ≤ (q : Int) + 1 := by omega
    have hw2 : IntKind.i64.wrap ((q : Int) + 1) = q + 1 := IntWalk.i64_in _ (by omega)
    clear he
    go_wp2_with fail
    refine (one_next h3 3 (by omega)).mono ?_
    rintro e u4 ⟨o, rfl, h4, g4⟩
    have g5 := grownBy_trans g3 g4
    cases o
    · go_wp2_with fail
      refine (one_next h4 2 (by omega)).mono ?_
      rintro e u5 ⟨o, rfl, h5, g6⟩
      have g7 := grownBy_trans g5 g6
      cases o
      · go_wp2_with fail
        go_quiet (fail)
        go_wp2
        go_ret
        exact ⟨_, rfl, by simp; omega, h5.drewN _, grownBy_drewN g7 _⟩
      · go_wp2_with fail
        go_quiet (fail)
        go_wp2
        go_ret
        exact ⟨_, rfl, by simp; omega, h5.drewN _, grownBy_drewN g7 _⟩
    · go_wp2_with fail
      go_quiet (fail)
      go_wp2
      go_ret
      exact ⟨_, rfl, by simp; omega, h4.drewN _, grownBy_drewN g5 _⟩
end
end Go.Proofs.Ytnfedciblgapmaa
