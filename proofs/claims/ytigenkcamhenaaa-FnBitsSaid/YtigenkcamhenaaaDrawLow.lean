/- The drawn Field of the laws on the least and the greatest number. Nothing that was there is written. -/
import Derived.Test.YtigenkcamhenaaaDrawBits
namespace Go.Proofs.Ytigenkcamhenaaa
open Go.RowKit
set_option linter.unusedVariables false
section
variable {w u u' : World} {S : Nat} {a : Option Addr} {len cap : Nat} {zs : List Int} {fs vs : List Nat}
set_option maxRecDepth 100000 in
set_option maxHeartbeats 8000000 in
theorem drawLowOf_any (hr : RowIn w a len zs) (hlen : len ≤ 1048576) (hba : 0 < len → ∀ b o, a = some ⟨b, o, none⟩ → b < w.heap.size) :
    Calls Try.prog 52 #[.slice a len cap] w fun e w' => ∃ (x y : Int) (g : Bool), I64P x ∧ I64P y ∧ e = .returned (.agg #[.int .i64 x, .int .i64 y, .bool g]) ∧ Below w.heap.size w w' := by
  have hb0 : Below w.heap.size w (w.alloc (.cells #[.int .i64 0, .int .i64 0, .bool false] 67)) := (Below.refl _ _).alloc (Nat.le_refl _) _
  have HS := Lib.hid (source_next (cap := cap) (hr.kept hb0 hba) hlen (fun p b o e => by have := hba p b o e; simp; omega))
  have HA := Lib.hid hba
  have hF : FdRow (w.alloc (.cells #[.int .i64 0, .int .i64 0, .bool false] 67)) w.heap.size := ⟨0, 0, false, heap_alloc_new w _, by unfold I64P; omega, by unfold I64P; omega⟩
  have hz : (w.alloc (.cells #[.int .i64 0, .int .i64 0, .bool false] 67)).heap.size = w.heap.size + 1 := by simp
  obtain ⟨U0, eU0⟩ : ∃ U0, (w.alloc (.cells #[.int .i64 0, .int .i64 0, .bool false] 67)) = U0 := ⟨_, rfl⟩
  rw [eU0] at hb0 HS hF hz
  go_enter Try.func52, Try.ntmps52
  go_wp2_with fail
  refine HS.out.mono ?_
  rintro e u0 ⟨rfl, h00⟩
  obtain ⟨S, eS⟩ : ∃ S, U0.heap.size = S := ⟨_, rfl⟩
  obtain ⟨R, eR⟩ : ∃ R, w.heap.size = R := ⟨_, rfl⟩
  have hSR : R < S := by omega
  have C0 := Lib.hid (show CB w S a len cap zs [R] [] u0 from ⟨eS ▸ h00.base hb0 HA.out, fun k hk => by
    have e : k = R := by simpa using hk
    subst e
    rw [← eR]
    refine ⟨by omega, Nat.le_refl _, Nat.lt_of_lt_of_le (by omega) h00.below.size, ?_⟩
    unfold FdRow at *
    rw [h00.below.block _ (by omega)]
    exact hF, fun k hk => by
    cases hk⟩)
  rw [eS, eR]
  clear h00 hF HS eU0 hz hb0
  go_wp2_with fail
  refine (field_next C0.out.dr).mono ?_
  rintro e u1 ⟨x, y, g, rfl, hx, hy, hd, hg⟩
  have C1 := Lib.hid (C0.out.go hd hg)
  unfold fdV
  clear hd hg
  obtain ⟨_, _, _, x0, y0, g0, hR, _⟩ := C1.out.fd R (by simp)
  obtain ⟨r0, r1, r2⟩ := fdCells hR
  have f0 := frozen_of_row u1 R 0 _ _ hR
  have f1 := frozen_of_row u1 R 1 _ _ hR
  have f2 := frozen_of_row u1 R 2 _ _ hR
  clear hR
  go_wp2_with fail
  exact bodyPost_ret (v := .agg #[.int .i64 x, .int .i64 y, .bool g]) (by simp [results, Try.results52, go_sem, r0, r1, r2]) rfl ⟨x, y, g, hx, hy, rfl, eR ▸ (C1.out.put3 (B := R) (by simp) hx hy).1.dr.below⟩
end
end Go.Proofs.Ytigenkcamhenaaa
