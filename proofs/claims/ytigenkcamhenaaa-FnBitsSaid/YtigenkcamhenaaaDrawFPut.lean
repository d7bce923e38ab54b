/- The drawn text, Field and Value that is put. Nothing that was there is written. -/
import Derived.Test.YtigenkcamhenaaaDrawVT
namespace Go.Proofs.Ytigenkcamhenaaa
open Go.RowKit
set_option linter.unusedVariables false
section
variable {w u u' : World} {S : Nat} {a : Option Addr} {len cap : Nat} {zs : List Int} {fs vs : List Nat}
set_option maxRecDepth 100000 in
set_option maxHeartbeats 8000000 in
theorem drawFieldPut_any (hr : RowIn w a len zs) (hlen : len ≤ 1048576) (hba : 0 < len → ∀ b o, a = some ⟨b, o, none⟩ → b < w.heap.size) :
    Calls Try.prog 48 #[.slice a len cap] w fun e w' => ∃ (l : List UInt8) (x y : Int) (g : Bool) (k n : Int), l.length ≤ 12 ∧ I64P x ∧ I64P y ∧ I64P k ∧ I64P n ∧ e = .returned (.tuple #[.string ⟨l.toArray⟩, .agg #[.int .i64 x, .int .i64 y, .bool g], .agg #[.int .i64 k, .int .i64 n]]) ∧ Below w.heap.size w w' := by
  have hb0 : Below w.heap.size w ((w.alloc (.cells #[.int .i64 0, .int .i64 0, .bool false] 67)).alloc (.cells #[.int .i64 0, .int .i64 0] 69)) := ((Below.refl _ _).alloc (Nat.le_refl _) _).alloc (by simp) _
  have HS := Lib.hid (source_next (cap := cap) (hr.kept hb0 hba) hlen (fun p b o e => by have := hba p b o e; simp; omega))
  have HA := Lib.hid hba
  have hF : FdRow ((w.alloc (.cells #[.int .i64 0, .int .i64 0, .bool false] 67)).alloc (.cells #[.int .i64 0, .int .i64 0] 69)) w.heap.size := ⟨0, 0, false, twoF w 0 0 false 0 0, by unfold I64P; omega, by unfold I64P; omega⟩
  have hV : VlRow ((w.alloc (.cells #[.int .i64 0, .int .i64 0, .bool false] 67)).alloc (.cells #[.int .i64 0, .int .i64 0] 69)) (w.heap.size + 1) := ⟨0, 0, twoV w 0 0 false 0 0, by unfold I64P; omega, by unfold I64P; omega⟩
  have hz : ((w.alloc (.cells #[.int .i64 0, .int .i64 0, .bool false] 67)).alloc (.cells #[.int .i64 0, .int .i64 0] 69)).heap.size = w.heap.size + 2 := by simp
  obtain ⟨U0, eU0⟩ : ∃ U0, ((w.alloc (.cells #[.int .i64 0, .int .i64 0, .bool false] 67)).alloc (.cells #[.int .i64 0, .int .i64 0] 69)) = U0 := ⟨_, rfl⟩
  rw [eU0] at hb0 HS hF hz hV
  go_enter Try.func48, Try.ntmps48
  go_wp2_with fail
  refine HS.out.mono ?_
  rintro e u0 ⟨rfl, h00⟩
  obtain ⟨S, eS⟩ : ∃ S, U0.heap.size = S := ⟨_, rfl⟩
  obtain ⟨R, eR⟩ : ∃ R, w.heap.size = R := ⟨_, rfl⟩
  have hSR : R + 1 < S := by omega
  have C0 := Lib.hid (show CB w S a len cap zs [R] [R + 1] u0 from ⟨eS ▸ h00.base hb0 HA.out, fun k hk => by
    have e : k = R := by simpa using hk
    subst e
    rw [← eR]
    refine ⟨by omega, Nat.le_refl _, Nat.lt_of_lt_of_le (by omega) h00.below.size, ?_⟩
    unfold FdRow at *
    rw [h00.below.block _ (by omega)]
    exact hF, fun k hk => by
    have e : k = R + 1 := by simpa using hk
    subst e
    rw [← eR]
    refine ⟨by omega, by omega, Nat.lt_of_lt_of_le (by omega) h00.below.size, ?_⟩
    unfold VlRow at *
    rw [h00.below.block _ (by omega)]
    exact hV⟩)
  rw [eS, eR]
  clear h00 hF HS eU0 hz hb0 hV
  go_wp2_with fail
  refine (text_next C0.out.dr).mono ?_
  rintro e u1 ⟨l, hl, rfl, hd, hg⟩
  have C1 := Lib.hid (C0.out.go hd hg)
  clear hd hg
  go_wp2_with fail
  refine (field_next C1.out.dr).mono ?_
  rintro e u2 ⟨x, y, g, rfl, hx, hy, hd, hg⟩
  have C2 := Lib.hid (C1.out.go hd hg)
  unfold fdV
  clear hd hg
  obtain ⟨V, eV⟩ : ∃ V, u2.heap.size = V := ⟨_, rfl⟩
  have hSlt := C2.out.dr.src.lt
  have CV := Lib.hid (show CB w S a len cap zs [V, R] [R + 1] (u2.alloc (.cells #[.int .i64 x, .int .i64 y, .bool g] 67)) from by
    have h := C2.out.go (C2.out.dr.alloc (.cells #[.int .i64 x, .int .i64 y, .bool g] 67)) (World.grownBy_alloc _ _ _)
    refine ⟨h.dr, fun k hk => ?_, h.vl⟩
    rcases (show k = V ∨ k = R by simpa using hk) with q | q
    · rw [q, ← eV]
      exact ⟨by omega, C2.out.dr.below.size, by simp, x, y, g, heap_alloc_new _ _, hx, hy⟩
    · exact h.fd k (by simp [q]))
  go_wp2_with fail
  refine wp_region_anyord (CB w S a len cap zs [V, R] [R + 1]) (RV S) (TFP S V (.string ⟨l.toArray⟩)) (by kernel_rfl) (by kernel_rfl) (by kernel_rfl) TFP.kept ?_ ?_ ?_
  · exact ⟨CV.out.dr.drew, CV.out.fd, CV.out.vl⟩
  · refine ⟨⟨rfl, fun a1 W hC hK => ?_⟩, ⟨rfl, fun a1 W hC hK => ?_⟩, ⟨rfl, fun a1 W hC hK => ?_⟩, ⟨rfl, fun a1 W hC hK => ?_⟩, ⟨rfl, fun a1 W hC hK => ?_⟩, ⟨rfl, fun a1 W hC hK => ?_⟩, ⟨rfl, fun a1 W hC hK => ?_⟩, ⟨rfl, fun a1 W hC hK => ?_⟩, trivial⟩
    · exact ob_move rfl ⟨_, rfl, hC, RV.refl _ _, (hK.old 6 (by kernel_rfl)).trans rfl⟩
    · have e1 : a1.eval (.tmp 7) = .pointer (some ⟨V, 0, none⟩) := (hK.old 7 (by kernel_rfl)).trans rfl
      obtain ⟨_, _, _, x, y, g, hV, hx, hy⟩ := hC.fd V (by simp)
      obtain ⟨c0, c1, c2⟩ := fdCells hV
      simp only [Act.eval, Array.getD_eq_getD_getElem?] at e1
      exact ob_value (v := .agg #[.int .i64 x, .int .i64 y, .bool g]) (w' := W) (by simp [execOp, go_sem, e1, c0, c1, c2]) ⟨_, rfl, hC, RV.refl _ _, x, y, g, rfl, hx, hy⟩
    · exact ob_move rfl ⟨_, rfl, hC, RV.refl _ _, (hK.old 5 (by kernel_rfl)).trans rfl⟩
    · have e1 : a1.eval (.tmp 7) = .pointer (some ⟨V, 0, none⟩) := (hK.old 7 (by kernel_rfl)).trans rfl
      obtain ⟨_, _, _, x, y, g, hV, hx, hy⟩ := hC.fd V (by simp)
      obtain ⟨c0, c1, c2⟩ := fdCells hV
      simp only [Act.eval, Array.getD_eq_getD_getElem?] at e1
      exact ob_value (v := .agg #[.int .i64 x, .int .i64 y, .bool g]) (w' := W) (by simp [execOp, go_sem, e1, c0, c1, c2]) ⟨_, rfl, hC, RV.refl _ _, x, y, g, rfl, hx, hy⟩
    · have e1 : a1.eval (.tmp 16) = .pointer (some ⟨S, 0, none⟩) := hK.get 2 16 (by kernel_rfl) rfl rfl rfl
      obtain ⟨x, y, g, e2, hx, hy⟩ : ∃ (x y : Int) (g : Bool), a1.eval (.tmp 17) = .agg #[.int .i64 x, .int .i64 y, .bool g] ∧ I64P x ∧ I64P y := hK.get 3 17 (by kernel_rfl) rfl rfl rfl
      refine ob_call rfl Try.func131 (by kernel_rfl) (by kernel_rfl) (vals := #[.pointer (some ⟨S, 0, none⟩), .agg #[.int .i64 x, .int .i64 y, .bool g]]) (by simp [e1, e2]) ?_
      refine (value_next (x := x) (y := y) (g := g) hC.dr).mono ?_
      rintro e W' ⟨k, n, rfl, hk, hn, hd, hg⟩
      exact ⟨_, rfl, _, rfl, hC.go hd hg, RV.grown hg, k, n, rfl, hk, hn⟩
    · exact ob_value (BigFrame.run_assign _ rfl W) ⟨_, rfl, hC, RV.refl _ _, hK.get 0 14 (by kernel_rfl) rfl rfl rfl⟩
    · have e1 : a1.eval (.tmp 3) = .pointer (some ⟨R, 0, none⟩) := (hK.old 3 (by kernel_rfl)).trans rfl
      obtain ⟨x, y, g, e2, hx, hy⟩ : ∃ (x y : Int) (g : Bool), a1.eval (.tmp 15) = .agg #[.int .i64 x, .int .i64 y, .bool g] ∧ I64P x ∧ I64P y := hK.get 1 15 (by kernel_rfl) rfl rfl rfl
      obtain ⟨_, _, _, x', y', g', hB, _⟩ := hC.fd R (by simp)
      obtain ⟨c0, c1, c2⟩ := fdCells hB
      have f0 := frozen_of_row W R 0 _ _ hB
      have f1 := frozen_of_row W R 1 _ _ hB
      have f2 := frozen_of_row W R 2 _ _ hB
      have hp := hC.put3 (B := R) (g := g) (by simp) hx hy
      simp only [Act.eval, Array.getD_eq_getD_getElem?] at e1 e2
      exact ob_skip (w' := set3 W R x y g) (by simp [execOp, go_sem, set3, e1, e2, c0, c1, c2, f0, f1, f2]) ⟨undef, rfl, hp.1, hp.2, trivial⟩
    · have e1 : a1.eval (.tmp 4) = .pointer (some ⟨R + 1, 0, none⟩) := (hK.old 4 (by kernel_rfl)).trans rfl
      obtain ⟨k, n, e2, hk, hn⟩ : ∃ (k n : Int), a1.eval (.tmp 18) = .agg #[.int .i64 k, .int .i64 n] ∧ I64P k ∧ I64P n := hK.get 4 18 (by kernel_rfl) rfl rfl rfl
      obtain ⟨_, _, _, x', y', hB, _⟩ := hC.vl (R + 1) (by simp)
      obtain ⟨c0, c1⟩ := vlCells hB
      have f0 := frozen_of_row W (R + 1) 0 _ _ hB
      have f1 := frozen_of_row W (R + 1) 1 _ _ hB
      have hp := hC.put2 (B := R + 1) (by simp) hk hn
      simp only [Act.eval, Array.getD_eq_getD_getElem?] at e1 e2
      exact ob_skip (w' := set2 W (R + 1) k n) (by simp [execOp, go_sem, set2, e1, e2, c0, c1, f0, f1]) ⟨undef, rfl, hp.1, hp.2, trivial⟩
  · intro vs W hC hT
    have e5 : vs 5 = .string ⟨l.toArray⟩ := hT 5 (by decide)
    simp only [fillL, if_true, Act.put, List.setIfInBounds_toArray, List.set_cons_zero, List.set_cons_succ, e5]
    have CW := Lib.hid hC
    obtain ⟨_, _, _, x2, y2, g2, hR, hx2, hy2⟩ := CW.out.fd R (by simp)
    obtain ⟨_, _, _, k2, n2, hR1, hk2, hn2⟩ := CW.out.vl (R + 1) (by simp)
    obtain ⟨r0, r1, r2⟩ := fdCells hR
    obtain ⟨q0, q1⟩ := vlCells hR1
    clear hC hT hR hR1
    go_wp2_with fail
    exact bodyPost_ret (v := .tuple #[.string ⟨l.toArray⟩, .agg #[.int .i64 x2, .int .i64 y2, .bool g2], .agg #[.int .i64 k2, .int .i64 n2]]) (by simp [results, Try.results48, go_sem, r0, r1, r2, q0, q1]) rfl ⟨l, x2, y2, g2, k2, n2, hl, hx2, hy2, hk2, hn2, rfl, eR ▸ CW.out.dr.below⟩
end
end Go.Proofs.Ytigenkcamhenaaa
