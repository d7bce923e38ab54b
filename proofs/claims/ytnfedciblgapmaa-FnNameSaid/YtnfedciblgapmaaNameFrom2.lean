/- The Name whose bytes a text is: the program's, and the model's of all texts. For every text; nothing that was there is written. -/
import Derived.Test.YtnfedciblgapmaaNameFrom
import Derived.Deep.RegionHeld3
namespace Go.Proofs.Ytnfedciblgapmaa
open Go.RowKit
set_option linter.unusedVariables false

set_option maxHeartbeats 1000000 in
theorem specNameFrom_any (t : ByteArray) (w : World) (hs : t.size ≤ maxLen) :
    Calls Try.prog 14 #[.string t] w fun e w' => e = .returned (nameFromV t) ∧ Below w.heap.size w w' := by
  by_cases ha : 8000 < t.size
  · rw [show nameFromV t = nmOutV nm0 2 from if_pos ha]
    have hd : decide (8000 < (t.size : Int)) = true := by simp; omega
    unfold maxLen at hs
    go_enter Try.func14, Try.ntmps14
    go_wp2
    exact bodyPost_ret (v := nmOutV nm0 2) (by simp [results, Try.results14, go_sem, nmOutV, nm0]) rfl ⟨rfl, (Below.refl _ _).alloc (Nat.le_refl _) _⟩
  have hd : decide (8000 < (t.size : Int)) = false := by simp; omega
  by_cases hb : t.size = 8
  · have H := specNameFrom_mid t w hb
    rwa [show (if fromB t = true then nmOutV (readNm t) 0 else nmOutV nm0 3) = nameFromV t by simp [nameFromV, hb]] at H
  · rw [show nameFromV t = nmOutV nm0 3 by simp [nameFromV, ha, hb]]
    have hd2 : ((t.size : Int) == 8) = false := by simp; omega
    have hd3 : ((t.size : Int) != 8) = true := by simp; omega
    unfold maxLen at hs
    go_enter Try.func14, Try.ntmps14
    go_wp2
    exact bodyPost_ret (v := nmOutV nm0 3) (by simp [results, Try.results14, go_sem, nmOutV, nm0]) rfl ⟨rfl, (Below.refl _ _).alloc (Nat.le_refl _) _⟩

set_option maxRecDepth 100000 in
set_option maxHeartbeats 4000000 in
theorem readName_any (g cap : Nat) (x0 x1 x2 x3 x4 x5 x6 x7 k : Int) (w : World) (hc : 8 ≤ cap) (hg : g < w.heap.size)
    (h0 : w.cell? ⟨g, 0, none⟩ = some (.int .u8 x0)) (h1 : w.cell? ⟨g, 1, none⟩ = some (.int .u8 x1)) (h2 : w.cell? ⟨g, 2, none⟩ = some (.int .u8 x2)) (h3 : w.cell? ⟨g, 3, none⟩ = some (.int .u8 x3)) (h4 : w.cell? ⟨g, 4, none⟩ = some (.int .u8 x4)) (h5 : w.cell? ⟨g, 5, none⟩ = some (.int .u8 x5)) (h6 : w.cell? ⟨g, 6, none⟩ = some (.int .u8 x6)) (h7 : w.cell? ⟨g, 7, none⟩ = some (.int .u8 x7))
    (l0 : 0 ≤ x0 ∧ x0 ≤ 255) (l1 : 0 ≤ x1 ∧ x1 ≤ 255) (l2 : 0 ≤ x2 ∧ x2 ≤ 255) (l3 : 0 ≤ x3 ∧ x3 ≤ 255) (l4 : 0 ≤ x4 ∧ x4 ≤ 255) (l5 : 0 ≤ x5 ∧ x5 ≤ 255) (l6 : 0 ≤ x6 ∧ x6 ≤ 255) (l7 : 0 ≤ x7 ∧ x7 ≤ 255) (hk : x0 + x1 * 256 + x2 * 65536 + x3 * 16777216 = k) :
    Calls Try.prog 30 #[.slice (some ⟨g, 0, none⟩) 8 cap] w fun e w' => e = .returned (.agg #[.int .i64 (k % 2097152), .int .i64 (k / 2097152), .int .i64 x4, .int .i64 x5, .int .i64 (x6 / 2), .int .i64 (x7 % 16), .int .i64 (x7 / 16 % 8), .bool (decide (128 ≤ x7))]) ∧ Below w.heap.size w w' := by
  have hgn : g ≠ w.heap.size := by omega
  have hgm : w.heap.size ≠ g := by omega
  have hkb : 0 ≤ k ∧ k ≤ 4294967295 := by omega
  have hy : x7 % 128 / 16 = x7 / 16 % 8 := by omega
  go_enter Try.func30, Try.ntmps30
  go_wp2_with (first
    | (go_at_call 23; refine (parts_any _ _ _ _ (by omega)).mono ?_; rintro e w3 ⟨rfl, nd, rfl⟩; have q0 : ((w.alloc (.cells #[.int .i64 0, .int .i64 0, .int .i64 0, .int .i64 0, .int .i64 0, .int .i64 0, .int .i64 0, .bool false] 24)).drewN nd).cell? ⟨g, 0, none⟩ = some (.int .u8 x0) := (World.cell?_alloc_lt _ _ ⟨g, 0, none⟩ hg).trans h0; have q1 : ((w.alloc (.cells #[.int .i64 0, .int .i64 0, .int .i64 0, .int .i64 0, .int .i64 0, .int .i64 0, .int .i64 0, .bool false] 24)).drewN nd).cell? ⟨g, 1, none⟩ = some (.int .u8 x1) := (World.cell?_alloc_lt _ _ ⟨g, 1, none⟩ hg).trans h1; have q2 : ((w.alloc (.cells #[.int .i64 0, .int .i64 0, .int .i64 0, .int .i64 0, .int .i64 0, .int .i64 0, .int .i64 0, .bool false] 24)).drewN nd).cell? ⟨g, 2, none⟩ = some (.int .u8 x2) := (World.cell?_alloc_lt _ _ ⟨g, 2, none⟩ hg).trans h2; have q3 : ((w.alloc (.cells #[.int .i64 0, .int .i64 0, .int .i64 0, .int .i64 0, .int .i64 0, .int .i64 0, .int .i64 0, .bool false] 24)).drewN nd).cell? ⟨g, 3, none⟩ = some (.int .u8 x3) := (World.cell?_alloc_lt _ _ ⟨g, 3, none⟩ hg).trans h3; have q4 : ((w.alloc (.cells #[.int .i64 0, .int .i64 0, .int .i64 0, .int .i64 0, .int .i64 0, .int .i64 0, .int .i64 0, .bool false] 24)).drewN nd).cell? ⟨g, 4, none⟩ = some (.int .u8 x4) := (World.cell?_alloc_lt _ _ ⟨g, 4, none⟩ hg).trans h4; have q5 : ((w.alloc (.cells #[.int .i64 0, .int .i64 0, .int .i64 0, .int .i64 0, .int .i64 0, .int .i64 0, .int .i64 0, .bool false] 24)).drewN nd).cell? ⟨g, 5, none⟩ = some (.int .u8 x5) := (World.cell?_alloc_lt _ _ ⟨g, 5, none⟩ hg).trans h5; have q6 : ((w.alloc (.cells #[.int .i64 0, .int .i64 0, .int .i64 0, .int .i64 0, .int .i64 0, .int .i64 0, .int .i64 0, .bool false] 24)).drewN nd).cell? ⟨g, 6, none⟩ = some (.int .u8 x6) := (World.cell?_alloc_lt _ _ ⟨g, 6, none⟩ hg).trans h6; have q7 : ((w.alloc (.cells #[.int .i64 0, .int .i64 0, .int .i64 0, .int .i64 0, .int .i64 0, .int .i64 0, .int .i64 0, .bool false] 24)).drewN nd).cell? ⟨g, 7, none⟩ = some (.int .u8 x7) := (World.cell?_alloc_lt _ _ ⟨g, 7, none⟩ hg).trans h7; have HG := getLow4_any g 0 4 x0 x1 x2 x3 ((w.alloc (.cells #[.int .i64 0, .int .i64 0, .int .i64 0, .int .i64 0, .int .i64 0, .int .i64 0, .int .i64 0, .bool false] 24)).drewN nd) q0 q1 q2 q3 l0 l1 l2 l3; rw [hk] at HG; replace HG := Lib.hid HG; clear hk)
    | (go_at_call 38; refine HG.out.mono ?_; rintro e w3 ⟨rfl, rfl⟩))
  have bU : Below w.heap.size w ((w.alloc (.cells #[.int .i64 0, .int .i64 0, .int .i64 0, .int .i64 0, .int .i64 0, .int .i64 0, .int .i64 0, .bool false] 24)).drewN nd) := below_drewN' ((Below.refl _ _).alloc (Nat.le_refl _) _) _
  have hU : ((w.alloc (.cells #[.int .i64 0, .int .i64 0, .int .i64 0, .int .i64 0, .int .i64 0, .int .i64 0, .int .i64 0, .bool false] 24)).drewN nd).heap[w.heap.size]? = some (.cells #[.int .i64 0, .int .i64 0, .int .i64 0, .int .i64 0, .int .i64 0, .int .i64 0, .int .i64 0, .bool false] 24 (0, 0)) := heap_alloc_new _ _
  generalize ((w.alloc (.cells #[.int .i64 0, .int .i64 0, .int .i64 0, .int .i64 0, .int .i64 0, .int .i64 0, .int .i64 0, .bool false] 24)).drewN nd) = U at *
  have r0 := cell_of_row U w.heap.size 0 _ _ (0, 0) hU
  have r1 := cell_of_row U w.heap.size 1 _ _ (0, 0) hU
  have r2 := cell_of_row U w.heap.size 2 _ _ (0, 0) hU
  have r3 := cell_of_row U w.heap.size 3 _ _ (0, 0) hU
  have r4 := cell_of_row U w.heap.size 4 _ _ (0, 0) hU
  have r5 := cell_of_row U w.heap.size 5 _ _ (0, 0) hU
  have r6 := cell_of_row U w.heap.size 6 _ _ (0, 0) hU
  have r7 := cell_of_row U w.heap.size 7 _ _ (0, 0) hU
  have f0 := frozen_of_row U w.heap.size 0 _ _ hU
  have f1 := frozen_of_row U w.heap.size 1 _ _ hU
  have f2 := frozen_of_row U w.heap.size 2 _ _ hU
  have f3 := frozen_of_row U w.heap.size 3 _ _ hU
  have f4 := frozen_of_row U w.heap.size 4 _ _ hU
  have f5 := frozen_of_row U w.heap.size 5 _ _ hU
  have f6 := frozen_of_row U w.heap.size 6 _ _ hU
  have f7 := frozen_of_row U w.heap.size 7 _ _ hU
  simp at r0 r1 r2 r3 r4 r5 r6 r7
  have e0 : k.tmod 2097152 = k % 2097152 := IntWalk.rem_in _ _ (by omega)
  have e1 : IntKind.i64.wrap (k.tdiv 2097152) = k / 2097152 := IntWalk.i64_quo _ _ (by omega)
  have e4 : IntKind.i64.wrap x4 = x4 := IntWalk.i64_in _ (by omega)
  have e5 : IntKind.i64.wrap x5 = x5 := IntWalk.i64_in _ (by omega)
  have e6 : IntKind.i64.wrap x6 = x6 := IntWalk.i64_in _ (by omega)
  have e6' : IntKind.i64.wrap (x6.tdiv 2) = x6 / 2 := IntWalk.i64_quo _ _ (by omega)
  have e7 : x7.tmod 16 = x7 % 16 := IntWalk.rem_in _ _ (by omega)
  have e8 : x7.tmod 128 = x7 % 128 := IntWalk.rem_in _ _ (by omega)
  have e9 : IntKind.i64.wrap ((x7 % 128).tdiv 16) = x7 / 16 % 8 := (IntWalk.i64_quo _ _ (by omega)).trans hy
  clear hy
  have hfar : ∀ (W : World) (n m : Nat) (v : Value), (W.setCell ⟨w.heap.size, n, none⟩ v).cell? ⟨g, m, none⟩ = W.cell? ⟨g, m, none⟩ := fun W n m v => World.cell?_setCell_far W ⟨w.heap.size, n, none⟩ ⟨g, m, none⟩ v hgm
  have HF := Lib.hid hfar
  have HD := Lib.hid (And.intro q4 (And.intro q5 q6))
  have HB := Lib.hid bU
  clear hU HG h0 h1 h2 h3 h4 h5 h6 h7 q0 q1 q2 q3 q4 q5 q6 q7 hfar bU hgn hgm hc hg l0 l1 l2 l3
  go_region_held3 (fun W => W.cell? ⟨g, 4, none⟩ = some (.int .u8 x4) ∧ W.cell? ⟨g, 5, none⟩ = some (.int .u8 x5) ∧ W.cell? ⟨g, 6, none⟩ = some (.int .u8 x6)) (first | (simp only [World.cell?_drew]; with_reducible exact HD.out) | (simp only [World.cell?_drew, HF.out]; with_reducible exact HD.out)) (fail)
  go_wp2
  exact bodyPost_ret (v := .agg #[.int .i64 (k % 2097152), .int .i64 (k / 2097152), .int .i64 x4, .int .i64 x5, .int .i64 (x6 / 2), .int .i64 (x7 % 16), .int .i64 (x7 / 16 % 8), .bool (decide (128 ≤ x7))]) (by simp [results, Try.results30, go_sem, r0, r1, r2, r3, r4, r5, r6, r7]) rfl
    ⟨rfl, (((((((((HB.out).setCell (p := ⟨w.heap.size, 0, none⟩) (Nat.le_refl _) _).setCell (p := ⟨w.heap.size, 1, none⟩) (Nat.le_refl _) _).setCell (p := ⟨w.heap.size, 2, none⟩) (Nat.le_refl _) _).setCell (p := ⟨w.heap.size, 3, none⟩) (Nat.le_refl _) _).setCell (p := ⟨w.heap.size, 4, none⟩) (Nat.le_refl _) _).setCell (p := ⟨w.heap.size, 5, none⟩) (Nat.le_refl _) _).setCell (p := ⟨w.heap.size, 6, none⟩) (Nat.le_refl _) _).setCell (p := ⟨w.heap.size, 7, none⟩) (Nat.le_refl _) _).drew⟩
end Go.Proofs.Ytnfedciblgapmaa
