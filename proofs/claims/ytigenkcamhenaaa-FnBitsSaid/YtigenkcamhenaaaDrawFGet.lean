/- The drawn text and Field that is got. Nothing that was there is written. -/
import Derived.Test.YtigenkcamhenaaaDrawBits
import Derived.Test.YtigenkcamhenaaaFilled
namespace Go.Proofs.Ytigenkcamhenaaa
open Go.RowKit
set_option linter.unusedVariables false
section
variable {w u u' : World} {S : Nat} {a : Option Addr} {len cap : Nat} {zs : List Int} {fs vs : List Nat}
set_option maxRecDepth 100000 in
set_option maxHeartbeats 8000000 in
theorem drawFieldGet_any (hr : RowIn w a len zs) (hlen : len ≤ 1048576) (hba : 0 < len → ∀ b o, a = some ⟨b, o, none⟩ → b < w.heap.size) :
    Calls Try.prog 50 #[.slice a len cap] w fun e w' => ∃ (l : List UInt8) (x y : Int) (g : Bool), l.length ≤ 12 ∧ I64P x ∧ I64P y ∧ e = .returned (.tuple #[.string ⟨l.toArray⟩, .agg #[.int .i64 x, .int .i64 y, .bool g]]) ∧ Below w.heap.size w w' := by
  have hb0 : Below w.heap.size w (w.alloc (.cells #[.int .i64 0, .int .i64 0, .bool false] 67)) := (Below.refl _ _).alloc (Nat.le_refl _) _
  have HS := Lib.hid (source_next (cap := cap) (hr.kept hb0 hba) hlen (fun p b o e => by have := hba p b o e; simp; omega))
  have HA := Lib.hid hba
  have hF : FdRow (w.alloc (.cells #[.int .i64 0, .int .i64 0, .bool false] 67)) w.heap.size := ⟨0, 0, false, heap_alloc_new w _, by unfold I64P; omega, by unfold I64P; omega⟩
  have hz : (w.alloc (.cells #[.int .i64 0, .int .i64 0, .bool false] 67)).heap.size = w.heap.size + 1 := by simp
  obtain ⟨U0, eU0⟩ : ∃ U0, (w.alloc (.cells #[.int .i64 0, .int .i64 0, .bool false] 67)) = U0 := ⟨_, rfl⟩
  rw [eU0] at hb0 HS hF hz
  go_enter Try.func50, Try.ntmps50
  go_wp2_with fail
  refine HS.out.mono ?_
  rintro e u0 ⟨rfl, h00⟩
  obtain ⟨S, eS⟩ : ∃ S, U0.heap.size = S := ⟨_, rfl⟩
  obtain ⟨R, eR⟩ : ∃ R, w.heap.size = R := ⟨_, rfl⟩
  have hSR : R < S := by omega
  have C0 := Lib.hid (show CB w S a len cap zs [R] [] u0 from ⟨eS ▸ h00.base hb0 HA.out, fun k hk => by
    have e : k = R := by simpa using hk
    subst e
    rw [← eR]
    refine ⟨by omega, Nat.le_refl _, Nat.lt_of_lt_of_le (by omega) h00.below.size, ?_⟩
    unfold FdRow at *
    rw [h00.below.block _ (by omega)]
    exact hF, fun k hk => by
    cases hk⟩)
  rw [eS, eR]
  clear h00 hF HS eU0 hz hb0
  go_wp2_with fail
  refine (text_next C0.out.dr).mono ?_
  rintro e u1 ⟨l, hl, rfl, hd, hg⟩
  have C1 := Lib.hid (C0.out.go hd hg)
  clear hd hg
  go_wp2_with fail
  refine (one_next C1.out.dr 4 (by omega)).mono ?_
  rintro e u2 ⟨b, rfl, hd, hg⟩
  have C2 := Lib.hid (C1.out.go hd hg)
  clear hd hg
  cases b
  · go_wp2_with fail
    refine (field_next C2.out.dr).mono ?_
    rintro e u3 ⟨x, y, g, rfl, hx, hy, hd, hg⟩
    have C3 := Lib.hid (C2.out.go hd hg)
    unfold fdV
    clear hd hg
    obtain ⟨_, _, _, x0, y0, g0, hR, _⟩ := C3.out.fd R (by simp)
    obtain ⟨r0, r1, r2⟩ := fdCells hR
    have f0 := frozen_of_row u3 R 0 _ _ hR
    have f1 := frozen_of_row u3 R 1 _ _ hR
    have f2 := frozen_of_row u3 R 2 _ _ hR
    clear hR
    go_wp2_with fail
    exact bodyPost_ret (v := .tuple #[.string ⟨l.toArray⟩, .agg #[.int .i64 x, .int .i64 y, .bool g]]) (by simp [results, Try.results50, go_sem, r0, r1, r2]) rfl ⟨l, x, y, g, hl, hx, hy, rfl, eR ▸ (C3.out.put3 (B := R) (by simp) hx hy).1.dr.below⟩
  · go_wp2_with fail
    refine (l06Fill_any ByteArray.empty u2 (by decide)).mono ?_
    rintro e u3 ⟨rfl, hb3⟩
    have C3 := Lib.hid (C2.out.go (C2.out.dr.made hb3) (grown_of_below hb3))
    clear hb3
    obtain ⟨l, hl8, hl⟩ : ∃ l : List UInt8, fill8 ByteArray.empty.data.toList = l ∧ l.length ≤ 12 := ⟨_, rfl, by rw [fill8_length]; decide⟩
    rw [hl8]
    clear hl8
    go_wp2_with fail
    refine (field_next C3.out.dr).mono ?_
    rintro e u4 ⟨x, y, g, rfl, hx, hy, hd, hg⟩
    have C4 := Lib.hid (C3.out.go hd hg)
    unfold fdV
    clear hd hg
    obtain ⟨_, _, _, x0, y0, g0, hR, _⟩ := C4.out.fd R (by simp)
    obtain ⟨r0, r1, r2⟩ := fdCells hR
    have f0 := frozen_of_row u4 R 0 _ _ hR
    have f1 := frozen_of_row u4 R 1 _ _ hR
    have f2 := frozen_of_row u4 R 2 _ _ hR
    clear hR
    go_wp2_with fail
    exact bodyPost_ret (v := .tuple #[.string ⟨l.toArray⟩, .agg #[.int .i64 x, .int .i64 y, .bool g]]) (by simp [results, Try.results50, go_sem, r0, r1, r2]) rfl ⟨l, x, y, g, hl, hx, hy, rfl, eR ▸ (C4.out.put3 (B := R) (by simp) hx hy).1.dr.below⟩
end
end Go.Proofs.Ytigenkcamhenaaa
