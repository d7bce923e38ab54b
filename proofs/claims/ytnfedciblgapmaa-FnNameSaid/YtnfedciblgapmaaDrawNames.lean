/- The drawn Names and texts of the laws on Names. Nothing that was there is written. -/
import Derived.Test.YtnfedciblgapmaaDrawName
import Derived.Test.YtnfedciblgapmaaNameBytes
import Derived.Test.YtnfedciblgapmaaSpoil
import Derived.Deep.RegionHeld3
namespace Go.Proofs.Ytnfedciblgapmaa
open Go.RowKit
set_option linter.unusedVariables false
theorem nmBytes_len (n : Nm) : (nmBytes n).length ≤ 8 := by
  unfold nmBytes
  split
  · exact Nat.le_of_eq (nmL_len n)
  · exact Nat.zero_le _
section
variable {w : World} {a : Option Addr} {len cap : Nat} {zs : List Int}
theorem name_nextL {u : World} {S : Nat} (h : Dr w S a len cap zs u) : Calls Try.prog 22 #[.pointer (some ⟨S, 0, none⟩)] u fun e u' =>
    ∃ (n0 n1 n2 n3 n4 n5 n6 : Int) (n7 : Bool), e = .returned (.agg #[.int .i64 n0, .int .i64 n1, .int .i64 n2, .int .i64 n3, .int .i64 n4, .int .i64 n5, .int .i64 n6, .bool n7]) ∧ Dr w S a len cap zs u' ∧ u.grownBy u' (some S) :=
  (name_next h).mono fun e u' ⟨⟨n0, n1, n2, n3, n4, n5, n6, n7⟩, he, hd, hg⟩ => ⟨n0, n1, n2, n3, n4, n5, n6, n7, he, hd, hg⟩
set_option maxHeartbeats 1000000 in
theorem drawNameBytes_any (hr : RowIn w a len zs) (hlen : len ≤ 1048576) (hba : 0 < len → ∀ b o, a = some ⟨b, o, none⟩ → b < w.heap.size) :
    Calls Try.prog 8 #[.slice a len cap] w fun e w' => ∃ n : Nm, e = .returned (nmV n) ∧ Below w.heap.size w w' := by
  have hb0 : Below w.heap.size w (w.alloc (.cells #[.int .i64 0, .int .i64 0, .int .i64 0, .int .i64 0, .int .i64 0, .int .i64 0, .int .i64 0, .bool false] 24)) := (Below.refl _ _).alloc (Nat.le_refl _) _
  have HS := Lib.hid (source_next (cap := cap) (hr.kept hb0 hba) hlen (fun p b o e => by have := hba p b o e; simp; omega))
  have HZ := Lib.hid (show (w.alloc (.cells #[.int .i64 0, .int .i64 0, .int .i64 0, .int .i64 0, .int .i64 0, .int .i64 0, .int .i64 0, .bool false] 24)).heap.size = w.heap.size + 1 by simp)
  have hW : (w.alloc (.cells #[.int .i64 0, .int .i64 0, .int .i64 0, .int .i64 0, .int .i64 0, .int .i64 0, .int .i64 0, .bool false] 24)).heap[w.heap.size]? = some (.cells #[.int .i64 0, .int .i64 0, .int .i64 0, .int .i64 0, .int .i64 0, .int .i64 0, .int .i64 0, .bool false] 24 (0, 0)) := heap_alloc_new w _
  clear hr hba
  go_enter Try.func8, Try.ntmps8
  go_wp2_with fail
  refine HS.out.mono ?_
  rintro e u0 ⟨rfl, h0⟩
  rw [HZ.out] at h0
  go_wp2_with fail
  refine (name_next h0).mono ?_
  rintro e u1 ⟨⟨n0, n1, n2, n3, n4, n5, n6, n7⟩, rfl, h1, g1⟩
  have hU := (h1.below.block w.heap.size (by simp)).trans hW
  have r0 := cell_of_row u1 w.heap.size 0 _ _ (0, 0) hU
  have r1 := cell_of_row u1 w.heap.size 1 _ _ (0, 0) hU
  have r2 := cell_of_row u1 w.heap.size 2 _ _ (0, 0) hU
  have r3 := cell_of_row u1 w.heap.size 3 _ _ (0, 0) hU
  have r4 := cell_of_row u1 w.heap.size 4 _ _ (0, 0) hU
  have r5 := cell_of_row u1 w.heap.size 5 _ _ (0, 0) hU
  have r6 := cell_of_row u1 w.heap.size 6 _ _ (0, 0) hU
  have r7 := cell_of_row u1 w.heap.size 7 _ _ (0, 0) hU
  have e0 := frozen_of_row u1 w.heap.size 0 _ _ hU
  have e1 := frozen_of_row u1 w.heap.size 1 _ _ hU
  have e2 := frozen_of_row u1 w.heap.size 2 _ _ hU
  have e3 := frozen_of_row u1 w.heap.size 3 _ _ hU
  have e4 := frozen_of_row u1 w.heap.size 4 _ _ hU
  have e5 := frozen_of_row u1 w.heap.size 5 _ _ hU
  have e6 := frozen_of_row u1 w.heap.size 6 _ _ hU
  have e7 := frozen_of_row u1 w.heap.size 7 _ _ hU
  simp at r0 r1 r2 r3 r4 r5 r6 r7
  have bw : Below w.heap.size w u1 := hb0.trans (h1.below.mono (by simp))
  clear h0 h1 g1 hU hW HS
  unfold nmV
  dsimp only
  go_wp2
  exact bodyPost_ret (v := .agg #[.int .i64 n0, .int .i64 n1, .int .i64 n2, .int .i64 n3, .int .i64 n4, .int .i64 n5, .int .i64 n6, .bool n7]) (by simp [results, Try.results8, go_sem, r0, r1, r2, r3, r4, r5, r6, r7]) rfl
    ⟨⟨n0, n1, n2, n3, n4, n5, n6, n7⟩, rfl, ((((((((bw).setCell (p := ⟨w.heap.size, 0, none⟩) (by simp) _).setCell (p := ⟨w.heap.size, 1, none⟩) (by simp) _).setCell (p := ⟨w.heap.size, 2, none⟩) (by simp) _).setCell (p := ⟨w.heap.size, 3, none⟩) (by simp) _).setCell (p := ⟨w.heap.size, 4, none⟩) (by simp) _).setCell (p := ⟨w.heap.size, 5, none⟩) (by simp) _).setCell (p := ⟨w.heap.size, 6, none⟩) (by simp) _).setCell (p := ⟨w.heap.size, 7, none⟩) (by simp) _⟩
set_option maxHeartbeats 2000000 in
theorem drawNameLess_any (hr : RowIn w a len zs) (hlen : len ≤ 1048576) (hba : 0 < len → ∀ b o, a = some ⟨b, o, none⟩ → b < w.heap.size) :
    Calls Try.prog 12 #[.slice a len cap] w fun e w' => ∃ n m : Nm, e = .returned (.tuple #[nmV n, nmV m]) ∧ Below w.heap.size w w' := by
  have hb0 : Below w.heap.size w ((w.alloc (.cells #[.int .i64 0, .int .i64 0, .int .i64 0, .int .i64 0, .int .i64 0, .int .i64 0, .int .i64 0, .bool false] 24)).alloc (.cells #[.int .i64 0, .int .i64 0, .int .i64 0, .int .i64 0, .int .i64 0, .int .i64 0, .int .i64 0, .bool false] 24)) := ((Below.refl _ _).alloc (Nat.le_refl _) _).alloc (by simp) _
  have HS := Lib.hid (source_next (cap := cap) (hr.kept hb0 hba) hlen (fun p b o e => by have := hba p b o e; simp; omega))
  have HZ := Lib.hid (show ((w.alloc (.cells #[.int .i64 0, .int .i64 0, .int .i64 0, .int .i64 0, .int .i64 0, .int .i64 0, .int .i64 0, .bool false] 24)).alloc (.cells #[.int .i64 0, .int .i64 0, .int .i64 0, .int .i64 0, .int .i64 0, .int .i64 0, .int .i64 0, .bool false] 24)).heap.size = w.heap.size + 2 by simp)
  have hW : ((w.alloc (.cells #[.int .i64 0, .int .i64 0, .int .i64 0, .int .i64 0, .int .i64 0, .int .i64 0, .int .i64 0, .bool false] 24)).alloc (.cells #[.int .i64 0, .int .i64 0, .int .i64 0, .int .i64 0, .int .i64 0, .int .i64 0, .int .i64 0, .bool false] 24)).heap[w.heap.size]? = some (.cells #[.int .i64 0, .int .i64 0, .int .i64 0, .int .i64 0, .int .i64 0, .int .i64 0, .int .i64 0, .bool false] 24 (0, 0)) := (Below.heap_alloc (w.alloc (.cells #[.int .i64 0, .int .i64 0, .int .i64 0, .int .i64 0, .int .i64 0, .int .i64 0, .int .i64 0, .bool false] 24)) _ w.heap.size (by simp)).trans (heap_alloc_new w _)
  have hX : ((w.alloc (.cells #[.int .i64 0, .int .i64 0, .int .i64 0, .int .i64 0, .int .i64 0, .int .i64 0, .int .i64 0, .bool false] 24)).alloc (.cells #[.int .i64 0, .int .i64 0, .int .i64 0, .int .i64 0, .int .i64 0, .int .i64 0, .int .i64 0, .bool false] 24)).heap[w.heap.size + 1]? = some (.cells #[.int .i64 0, .int .i64 0, .int .i64 0, .int .i64 0, .int .i64 0, .int .i64 0, .int .i64 0, .bool false] 24 (0, 0)) := heap_next w _ _
  clear hr hba
  go_enter Try.func12, Try.ntmps12
  go_wp2_with fail
  refine HS.out.mono ?_
  rintro e u0 ⟨rfl, h0⟩
  rw [HZ.out] at h0
  go_wp2_with fail
  refine (name_nextL h0).mono ?_
  rintro e u1 ⟨n0, n1, n2, n3, n4, n5, n6, n7, rfl, h1, g1⟩
  have z1 : w.heap.size + 1 < u1.heap.size := by have := h1.below.size; simp at this; omega
  have h2 := (h1.alloc (.cells #[.int .i64 n0, .int .i64 n1, .int .i64 n2, .int .i64 n3, .int .i64 n4, .int .i64 n5, .int .i64 n6, .bool n7] 24)).drew
  have hG : (u1.alloc (.cells #[.int .i64 n0, .int .i64 n1, .int .i64 n2, .int .i64 n3, .int .i64 n4, .int .i64 n5, .int .i64 n6, .bool n7] 24)).drew.heap[u1.heap.size]? = some (.cells #[.int .i64 n0, .int .i64 n1, .int .i64 n2, .int .i64 n3, .int .i64 n4, .int .i64 n5, .int .i64 n6, .bool n7] 24 (0, 0)) := heap_alloc_new u1 _
  have neS : u1.heap.size ≠ w.heap.size + 2 := by have := h1.src.lt; omega
  have zS : u1.heap.size < (u1.alloc (.cells #[.int .i64 n0, .int .i64 n1, .int .i64 n2, .int .i64 n3, .int .i64 n4, .int .i64 n5, .int .i64 n6, .bool n7] 24)).drew.heap.size := by show u1.heap.size < (u1.alloc (.cells #[.int .i64 n0, .int .i64 n1, .int .i64 n2, .int .i64 n3, .int .i64 n4, .int .i64 n5, .int .i64 n6, .bool n7] 24)).heap.size; simp
  have hKeep : ∀ W : World, W.heap[u1.heap.size]? = some (.cells #[.int .i64 n0, .int .i64 n1, .int .i64 n2, .int .i64 n3, .int .i64 n4, .int .i64 n5, .int .i64 n6, .bool n7] 24 (0, 0)) → (fun W => W.cell? ⟨u1.heap.size, 0, none⟩ = some (.int .i64 n0) ∧ W.cell? ⟨u1.heap.size, 1, none⟩ = some (.int .i64 n1) ∧ W.cell? ⟨u1.heap.size, 2, none⟩ = some (.int .i64 n2) ∧ W.cell? ⟨u1.heap.size, 3, none⟩ = some (.int .i64 n3) ∧ W.cell? ⟨u1.heap.size, 4, none⟩ = some (.int .i64 n4) ∧ W.cell? ⟨u1.heap.size, 5, none⟩ = some (.int .i64 n5) ∧ W.cell? ⟨u1.heap.size, 6, none⟩ = some (.int .i64 n6) ∧ W.cell? ⟨u1.heap.size, 7, none⟩ = some (.bool n7)) W := fun W hW => by
    have q0 := cell_of_row W u1.heap.size 0 _ _ (0, 0) hW
    have q1 := cell_of_row W u1.heap.size 1 _ _ (0, 0) hW
    have q2 := cell_of_row W u1.heap.size 2 _ _ (0, 0) hW
    have q3 := cell_of_row W u1.heap.size 3 _ _ (0, 0) hW
    have q4 := cell_of_row W u1.heap.size 4 _ _ (0, 0) hW
    have q5 := cell_of_row W u1.heap.size 5 _ _ (0, 0) hW
    have q6 := cell_of_row W u1.heap.size 6 _ _ (0, 0) hW
    have q7 := cell_of_row W u1.heap.size 7 _ _ (0, 0) hW
    simp only [List.getElem?_toArray, List.getElem?_cons_zero, List.getElem?_cons_succ] at q0 q1 q2 q3 q4 q5 q6 q7
    exact ⟨q0, q1, q2, q3, q4, q5, q6, q7⟩
  have HK := Lib.hid hKeep
  have HG := Lib.hid hG
  have HWX := Lib.hid (And.intro hW hX)
  have HH2 := Lib.hid h2
  have hf0 : ∀ (W : World) (n m : Nat) (v : Value), (W.setCell ⟨w.heap.size, n, none⟩ v).cell? ⟨u1.heap.size, m, none⟩ = W.cell? ⟨u1.heap.size, m, none⟩ := fun W n m v => World.cell?_setCell_far W _ _ v (show w.heap.size ≠ u1.heap.size by omega)
  have hf1 : ∀ (W : World) (n m : Nat) (v : Value), (W.setCell ⟨w.heap.size + 1, n, none⟩ v).cell? ⟨u1.heap.size, m, none⟩ = W.cell? ⟨u1.heap.size, m, none⟩ := fun W n m v => World.cell?_setCell_far W _ _ v (show w.heap.size + 1 ≠ u1.heap.size by omega)
  have HF0 := Lib.hid hf0
  have HF1 := Lib.hid hf1
  clear hKeep hG hW hX h2 hf0 hf1 h1 g1 h0 HS
  go_wp2_with fail
  go_region_held3 (fun W => W.cell? ⟨u1.heap.size, 0, none⟩ = some (.int .i64 n0) ∧ W.cell? ⟨u1.heap.size, 1, none⟩ = some (.int .i64 n1) ∧ W.cell? ⟨u1.heap.size, 2, none⟩ = some (.int .i64 n2) ∧ W.cell? ⟨u1.heap.size, 3, none⟩ = some (.int .i64 n3) ∧ W.cell? ⟨u1.heap.size, 4, none⟩ = some (.int .i64 n4) ∧ W.cell? ⟨u1.heap.size, 5, none⟩ = some (.int .i64 n5) ∧ W.cell? ⟨u1.heap.size, 6, none⟩ = some (.int .i64 n6) ∧ W.cell? ⟨u1.heap.size, 7, none⟩ = some (.bool n7))
    (first | with_reducible exact HK.out _ HG.out | with_reducible exact HK.out _ HG3.out | (simp only [HF0.out]; with_reducible exact HC3.out) | (simp only [HF0.out, HF1.out]; with_reducible exact HC3.out))
    (first
      | (go_at_call 22; refine (name_nextL HH2.out).mono ?_; rintro e u3 ⟨m0, m1, m2, m3, m4, m5, m6, m7, rfl, h3, g3⟩; have HG3 := Lib.hid ((g3.block u1.heap.size zS (fun e => neS (Option.some.inj e))).trans HG.out); have HC3 := Lib.hid (HK.out _ HG3.out); have hU := (h3.below.block w.heap.size (by simp; omega)).trans HWX.out.1; have hV := (h3.below.block (w.heap.size + 1) (by simp)).trans HWX.out.2; have r0 := cell_of_row u3 w.heap.size 0 _ _ (0, 0) hU; have r1 := cell_of_row u3 w.heap.size 1 _ _ (0, 0) hU; have r2 := cell_of_row u3 w.heap.size 2 _ _ (0, 0) hU; have r3 := cell_of_row u3 w.heap.size 3 _ _ (0, 0) hU; have r4 := cell_of_row u3 w.heap.size 4 _ _ (0, 0) hU; have r5 := cell_of_row u3 w.heap.size 5 _ _ (0, 0) hU; have r6 := cell_of_row u3 w.heap.size 6 _ _ (0, 0) hU; have r7 := cell_of_row u3 w.heap.size 7 _ _ (0, 0) hU; have e0 := frozen_of_row u3 w.heap.size 0 _ _ hU; have e1 := frozen_of_row u3 w.heap.size 1 _ _ hU; have e2 := frozen_of_row u3 w.heap.size 2 _ _ hU; have e3 := frozen_of_row u3 w.heap.size 3 _ _ hU; have e4 := frozen_of_row u3 w.heap.size 4 _ _ hU; have e5 := frozen_of_row u3 w.heap.size 5 _ _ hU; have e6 := frozen_of_row u3 w.heap.size 6 _ _ hU; have e7 := frozen_of_row u3 w.heap.size 7 _ _ hU; simp only [List.getElem?_toArray, List.getElem?_cons_zero, List.getElem?_cons_succ] at r0 r1 r2 r3 r4 r5 r6 r7; have xr0 := cell_of_row u3 (w.heap.size + 1) 0 _ _ (0, 0) hV; have xr1 := cell_of_row u3 (w.heap.size + 1) 1 _ _ (0, 0) hV; have xr2 := cell_of_row u3 (w.heap.size + 1) 2 _ _ (0, 0) hV; have xr3 := cell_of_row u3 (w.heap.size + 1) 3 _ _ (0, 0) hV; have xr4 := cell_of_row u3 (w.heap.size + 1) 4 _ _ (0, 0) hV; have xr5 := cell_of_row u3 (w.heap.size + 1) 5 _ _ (0, 0) hV; have xr6 := cell_of_row u3 (w.heap.size + 1) 6 _ _ (0, 0) hV; have xr7 := cell_of_row u3 (w.heap.size + 1) 7 _ _ (0, 0) hV; have xe0 := frozen_of_row u3 (w.heap.size + 1) 0 _ _ hV; have xe1 := frozen_of_row u3 (w.heap.size + 1) 1 _ _ hV; have xe2 := frozen_of_row u3 (w.heap.size + 1) 2 _ _ hV; have xe3 := frozen_of_row u3 (w.heap.size + 1) 3 _ _ hV; have xe4 := frozen_of_row u3 (w.heap.size + 1) 4 _ _ hV; have xe5 := frozen_of_row u3 (w.heap.size + 1) 5 _ _ hV; have xe6 := frozen_of_row u3 (w.heap.size + 1) 6 _ _ hV; have xe7 := frozen_of_row u3 (w.heap.size + 1) 7 _ _ hV; simp only [List.getElem?_toArray, List.getElem?_cons_zero, List.getElem?_cons_succ] at xr0 xr1 xr2 xr3 xr4 xr5 xr6 xr7; have b3 : Below w.heap.size w u3 := hb0.trans (h3.below.mono (by simp; omega)); clear h3 g3 hU hV))
  go_wp2
  exact bodyPost_ret (v := .tuple #[.agg #[.int .i64 n0, .int .i64 n1, .int .i64 n2, .int .i64 n3, .int .i64 n4, .int .i64 n5, .int .i64 n6, .bool n7], .agg #[.int .i64 m0, .int .i64 m1, .int .i64 m2, .int .i64 m3, .int .i64 m4, .int .i64 m5, .int .i64 m6, .bool m7]]) (by simp [results, Try.results12, go_sem, r0, xr0, r1, xr1, r2, xr2, r3, xr3, r4, xr4, r5, xr5, r6, xr6, r7, xr7]) rfl
    ⟨⟨n0, n1, n2, n3, n4, n5, n6, n7⟩, ⟨m0, m1, m2, m3, m4, m5, m6, m7⟩, rfl, ((((((((((((((((b3).setCell (p := ⟨w.heap.size, 0, none⟩) (by simp) _).setCell (p := ⟨w.heap.size, 1, none⟩) (by simp) _).setCell (p := ⟨w.heap.size, 2, none⟩) (by simp) _).setCell (p := ⟨w.heap.size, 3, none⟩) (by simp) _).setCell (p := ⟨w.heap.size, 4, none⟩) (by simp) _).setCell (p := ⟨w.heap.size, 5, none⟩) (by simp) _).setCell (p := ⟨w.heap.size, 6, none⟩) (by simp) _).setCell (p := ⟨w.heap.size, 7, none⟩) (by simp) _).setCell (p := ⟨w.heap.size + 1, 0, none⟩) (by simp) _).setCell (p := ⟨w.heap.size + 1, 1, none⟩) (by simp) _).setCell (p := ⟨w.heap.size + 1, 2, none⟩) (by simp) _).setCell (p := ⟨w.heap.size + 1, 3, none⟩) (by simp) _).setCell (p := ⟨w.heap.size + 1, 4, none⟩) (by simp) _).setCell (p := ⟨w.heap.size + 1, 5, none⟩) (by simp) _).setCell (p := ⟨w.heap.size + 1, 6, none⟩) (by simp) _).setCell (p := ⟨w.heap.size + 1, 7, none⟩) (by simp) _⟩
theorem drawNameFrom_any (hr : RowIn w a len zs) (hlen : len ≤ 1048576) (hba : 0 < len → ∀ b o, a = some ⟨b, o, none⟩ → b < w.heap.size) :
    Calls Try.prog 10 #[.slice a len cap] w fun e w' => ∃ t : ByteArray, t.size ≤ 9 ∧ e = .returned (.string t) ∧ Below w.heap.size w w' := by
  have HS := Lib.hid (source_next (cap := cap) hr hlen hba)
  clear hr hba
  go_enter Try.func10, Try.ntmps10
  go_wp2_with fail
  refine HS.out.mono ?_
  rintro e u0 ⟨rfl, h0⟩
  go_wp2_with fail
  refine (name_next h0).mono ?_
  rintro e u1 ⟨n, rfl, h1, g1⟩
  go_wp2_with fail
  refine (specNameBytes_any n _).mono ?_
  rintro e u2 ⟨rfl, b2⟩
  have h2 := h1.made b2
  have hl := nmBytes_len n
  have ht : (ByteArray.mk (nmBytes n).toArray).size ≤ 8 := by simpa [ByteArray.size] using hl
  generalize ByteArray.mk (nmBytes n).toArray = t at *
  clear hl b2 h1 g1
  go_wp2_with fail
  refine (n_next h2 4 (by omega)).mono ?_
  rintro e u3 ⟨k, rfl, k0, km, h3, g3⟩
  rcases (show k = 0 ∨ k = 1 ∨ 1 < k by omega) with rfl | rfl | hk
  · go_wp2_with fail
    refine (spoil_next h3 t (by omega)).mono ?_
    rintro e u4 ⟨s, rfl, hs, h4, g4⟩
    go_wp2
    go_ret
    exact ⟨s, by omega, rfl, h4.below⟩
  · go_wp2_with fail
    refine (bytes_next h3 8 (by omega) (by omega)).mono ?_
    rintro e u4 ⟨l, hl, rfl, h4, g4⟩
    go_wp2
    go_ret
    exact ⟨_, by simp [ByteArray.size]; omega, rfl, h4.below⟩
  · have e0 : (k == 0) = false := by simpa using (show k ≠ 0 by omega)
    have e1 : (k == 1) = false := by simpa using (show k ≠ 1 by omega)
    go_wp2
    go_ret
    exact ⟨t, by omega, rfl, h3.below⟩
end
end Go.Proofs.Ytnfedciblgapmaa
