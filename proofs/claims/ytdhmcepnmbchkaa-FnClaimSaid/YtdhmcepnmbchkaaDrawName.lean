/- A drawn Name: what the draw leaves. Nothing that was there is written, but the source. -/
import Derived.Test.YtdhmcepnmbchkaaDrawMore
import Derived.Test.YtdhmcepnmbchkaaName
namespace Go.Proofs.Ytdhmcepnmbchkaa
open Go.RowKit
set_option linter.unusedVariables false
section
variable {w u u' : World} {S : Nat} {a : Option Addr} {len cap : Nat} {zs : List Int}
/-- A drawn Name. -/
def NextNm (w : World) (S : Nat) (a : Option Addr) (len cap : Nat) (zs : List Int) (u : World) (e : Ending) (u' : World) : Prop :=
  ∃ n : Nm, e = .returned (nmV n) ∧ Dr w S a len cap zs u' ∧ u.grownBy u' (some S)
set_option maxRecDepth 100000 in
set_option maxHeartbeats 8000000 in
theorem name_next (h : Dr w S a len cap zs u) : Calls Try.prog 54 #[.pointer (some ⟨S, 0, none⟩)] u (NextNm w S a len cap zs u) := by
  have hlo := h.lo
  have hwu := h.below.size
  have hS := h.src.lt
  have neR : u.heap.size ≠ S := by omega
  have wR : w.heap.size ≤ u.heap.size := by omega
  have hR0 : (u.alloc (.cells #[.int .i64 0, .int .i64 0, .int .i64 0, .int .i64 0, .int .i64 0, .int .i64 0, .int .i64 0, .bool false] 24)).heap[u.heap.size]? = some (.cells #[.int .i64 0, .int .i64 0, .int .i64 0, .int .i64 0, .int .i64 0, .int .i64 0, .int .i64 0, .bool false] 24 (0, 0)) := heap_alloc_new u _
  go_enter Try.func54, Try.ntmps54
  go_wp2_with fail
  refine (n_next (h.alloc _) 6 (by omega)).mono ?_
  rintro e u1 ⟨a0, rfl, _, _, h1, g1⟩
  go_wp2_with fail
  refine (n_next h1 2 (by omega)).mono ?_
  rintro e u2 ⟨a1, rfl, _, _, h2, g2⟩
  go_wp2_with fail
  refine (one_next h2 2 (by omega)).mono ?_
  rintro e u3 ⟨a7, rfl, h3, g3⟩
  have gB3 := grownBy_trans g1 (grownBy_trans g2 g3)
  have hz3 : u.heap.size < u3.heap.size := by have := gB3.size; simp at this; omega
  have HR3 := Lib.hid ((gB3.block u.heap.size (by simp) (fun e => neR (Option.some.inj e))).trans hR0)
  have gg3 := grownBy_trans (World.grownBy_alloc _ _ _) gB3
  have hS3 := h3.src.lt
  have neG : u3.heap.size ≠ S := by omega
  have neGR : u.heap.size ≠ u3.heap.size := by omega
  have wG : w.heap.size ≤ u3.heap.size := by omega
  have uG : u.heap.size ≤ u3.heap.size := by omega
  have HG4 := Lib.hid (show (u3.alloc (.cells #[.int .i64 a0, .int .i64 a1, .int .i64 0, .int .i64 0, .int .i64 0, .int .i64 0, .int .i64 0, .bool a7] 24)).heap[u3.heap.size]? = some (.cells #[.int .i64 a0, .int .i64 a1, .int .i64 0, .int .i64 0, .int .i64 0, .int .i64 0, .int .i64 0, .bool a7] 24 (0, 0)) from heap_alloc_new u3 _)
  have HR4 := Lib.hid ((Below.heap_alloc u3 (.cells #[.int .i64 a0, .int .i64 a1, .int .i64 0, .int .i64 0, .int .i64 0, .int .i64 0, .int .i64 0, .bool a7] 24) u.heap.size hz3).trans HR3.out)
  have gg4 := grownBy_alloc gg3 (.cells #[.int .i64 a0, .int .i64 a1, .int .i64 0, .int .i64 0, .int .i64 0, .int .i64 0, .int .i64 0, .bool a7] 24)
  have hD4 := h3.alloc (.cells #[.int .i64 a0, .int .i64 a1, .int .i64 0, .int .i64 0, .int .i64 0, .int .i64 0, .int .i64 0, .bool a7] 24)
  have zG4 : u3.heap.size < (u3.alloc (.cells #[.int .i64 a0, .int .i64 a1, .int .i64 0, .int .i64 0, .int .i64 0, .int .i64 0, .int .i64 0, .bool a7] 24)).heap.size := by simp
  have zR4 : u.heap.size < (u3.alloc (.cells #[.int .i64 a0, .int .i64 a1, .int .i64 0, .int .i64 0, .int .i64 0, .int .i64 0, .int .i64 0, .bool a7] 24)).heap.size := by simp; omega
  clear HR3 gg3 h3 hz3 hS3 hR0 h h1 h2 g1 g2 g3 gB3
  go_wp2_with fail
  refine (one_next hD4 3 (by omega)).mono ?_
  rintro e v0 ⟨o, rfl, hD5, gX⟩
  have HG101 := Lib.hid ((gX.block u3.heap.size zG4 (fun e => neG (Option.some.inj e))).trans HG4.out)
  have HR102 := Lib.hid ((gX.block u.heap.size zR4 (fun e => neR (Option.some.inj e))).trans HR4.out)
  have gg103 := grownBy_trans gg4 gX
  have zG104 : u3.heap.size < v0.heap.size := Nat.lt_of_lt_of_le zG4 gX.size
  have zR105 : u.heap.size < v0.heap.size := Nat.lt_of_lt_of_le zR4 gX.size
  clear HG4 HR4 gg4 zG4 zR4 hD4
  clear gX
  cases o
  · skip
    go_wp2_with fail
    refine (one_next hD5 15 (by omega)).mono ?_
    rintro e v1 ⟨o, rfl, hD1, gA⟩
    have HG106 := Lib.hid ((gA.block u3.heap.size zG104 (fun e => neG (Option.some.inj e))).trans HG101.out)
    have HR107 := Lib.hid ((gA.block u.heap.size zR105 (fun e => neR (Option.some.inj e))).trans HR102.out)
    have gg108 := grownBy_trans gg103 gA
    have zG109 : u3.heap.size < v1.heap.size := Nat.lt_of_lt_of_le zG104 gA.size
    have zR110 : u.heap.size < v1.heap.size := Nat.lt_of_lt_of_le zR105 gA.size
    clear HG101 HR102 gg103 zG104 zR105 hD5
    cases o
    · skip
      have n0 := cell_of_row v1 u3.heap.size 0 _ _ (0, 0) HG106.out
      have n1 := cell_of_row v1 u3.heap.size 1 _ _ (0, 0) HG106.out
      have n2 := cell_of_row v1 u3.heap.size 2 _ _ (0, 0) HG106.out
      have n3 := cell_of_row v1 u3.heap.size 3 _ _ (0, 0) HG106.out
      have n4 := cell_of_row v1 u3.heap.size 4 _ _ (0, 0) HG106.out
      have n5 := cell_of_row v1 u3.heap.size 5 _ _ (0, 0) HG106.out
      have n6 := cell_of_row v1 u3.heap.size 6 _ _ (0, 0) HG106.out
      have n7 := cell_of_row v1 u3.heap.size 7 _ _ (0, 0) HG106.out
      have r0 := cell_of_row v1 u.heap.size 0 _ _ (0, 0) HR107.out
      have r1 := cell_of_row v1 u.heap.size 1 _ _ (0, 0) HR107.out
      have r2 := cell_of_row v1 u.heap.size 2 _ _ (0, 0) HR107.out
      have r3 := cell_of_row v1 u.heap.size 3 _ _ (0, 0) HR107.out
      have r4 := cell_of_row v1 u.heap.size 4 _ _ (0, 0) HR107.out
      have r5 := cell_of_row v1 u.heap.size 5 _ _ (0, 0) HR107.out
      have r6 := cell_of_row v1 u.heap.size 6 _ _ (0, 0) HR107.out
      have r7 := cell_of_row v1 u.heap.size 7 _ _ (0, 0) HR107.out
      have e0 := frozen_of_row v1 u.heap.size 0 _ _ HR107.out
      have e1 := frozen_of_row v1 u.heap.size 1 _ _ HR107.out
      have e2 := frozen_of_row v1 u.heap.size 2 _ _ HR107.out
      have e3 := frozen_of_row v1 u.heap.size 3 _ _ HR107.out
      have e4 := frozen_of_row v1 u.heap.size 4 _ _ HR107.out
      have e5 := frozen_of_row v1 u.heap.size 5 _ _ HR107.out
      have e6 := frozen_of_row v1 u.heap.size 6 _ _ HR107.out
      have e7 := frozen_of_row v1 u.heap.size 7 _ _ HR107.out
      simp only [List.getElem?_toArray, List.getElem?_cons_zero, List.getElem?_cons_succ] at n0 n1 n2 n3 n4 n5 n6 n7 r0 r1 r2 r3 r4 r5 r6 r7
      go_wp2
      exact bodyPost_ret (v := .agg #[.int .i64 a0, .int .i64 a1, .int .i64 0, .int .i64 0, .int .i64 0, .int .i64 0, .int .i64 0, .bool a7]) (by simp [results, Try.results54, go_sem, r0, r1, r2, r3, r4, r5, r6, r7]) rfl
        ⟨⟨a0, a1, 0, 0, 0, 0, 0, a7⟩, rfl, ((((((((hD1.set (p := ⟨u.heap.size, 0, none⟩) neR wR _).set (p := ⟨u.heap.size, 1, none⟩) neR wR _).set (p := ⟨u.heap.size, 2, none⟩) neR wR _).set (p := ⟨u.heap.size, 3, none⟩) neR wR _).set (p := ⟨u.heap.size, 4, none⟩) neR wR _).set (p := ⟨u.heap.size, 5, none⟩) neR wR _).set (p := ⟨u.heap.size, 6, none⟩) neR wR _).set (p := ⟨u.heap.size, 7, none⟩) neR wR _), (grownBy_new (grownBy_new (grownBy_new (grownBy_new (grownBy_new (grownBy_new (grownBy_new (grownBy_new gg108 (p := ⟨u.heap.size, 0, none⟩) (Nat.le_refl _) _) (p := ⟨u.heap.size, 1, none⟩) (Nat.le_refl _) _) (p := ⟨u.heap.size, 2, none⟩) (Nat.le_refl _) _) (p := ⟨u.heap.size, 3, none⟩) (Nat.le_refl _) _) (p := ⟨u.heap.size, 4, none⟩) (Nat.le_refl _) _) (p := ⟨u.heap.size, 5, none⟩) (Nat.le_refl _) _) (p := ⟨u.heap.size, 6, none⟩) (Nat.le_refl _) _) (p := ⟨u.heap.size, 7, none⟩) (Nat.le_refl _) _)⟩
    · skip
      go_wp2_with fail
      refine (n_next hD1 4 (by omega)).mono ?_
      rintro e v2 ⟨k, rfl, k0, km, hD2, gB⟩
      have HG111 := Lib.hid ((gB.block u3.heap.size zG109 (fun e => neG (Option.some.inj e))).trans HG106.out)
      have HR112 := Lib.hid ((gB.block u.heap.size zR110 (fun e => neR (Option.some.inj e))).trans HR107.out)
      have gg113 := grownBy_trans gg108 gB
      have zG114 : u3.heap.size < v2.heap.size := Nat.lt_of_lt_of_le zG109 gB.size
      have zR115 : u.heap.size < v2.heap.size := Nat.lt_of_lt_of_le zR110 gB.size
      have hS2 := hD2.src.lt
      rcases (show k = 0 ∨ k = 1 ∨ k = 2 ∨ k = 3 by omega) with rfl | rfl | rfl | rfl
      · skip
        go_wp2_with fail
        refine (n_next (hD2.alloc _) 3 (by omega)).mono ?_
        rintro e v3 ⟨j, rfl, j0, jm, hD3, gC⟩
        obtain ⟨x, hx, hm⟩ := pick_cell [-1, 2097151, 2097152] hS2 gC j.toNat (by simp; omega)
        have hj : j < 3 := by omega
        clear hm jm
        have gD := grownBy_trans (World.grownBy_alloc _ _ _) gC
        have HG116 := Lib.hid ((gD.block u3.heap.size zG114 (fun e => neG (Option.some.inj e))).trans HG111.out)
        have HR117 := Lib.hid ((gD.block u.heap.size zR115 (fun e => neR (Option.some.inj e))).trans HR112.out)
        have gg118 := grownBy_trans gg113 gD
        have zG119 : u3.heap.size < v3.heap.size := Nat.lt_of_lt_of_le zG114 gD.size
        have zR120 : u.heap.size < v3.heap.size := Nat.lt_of_lt_of_le zR115 gD.size
        have HG121 := Lib.hid (show (v3.setCell ⟨u3.heap.size, 0, none⟩ (.int .i64 x)).heap[u3.heap.size]? = some (.cells #[.int .i64 x, .int .i64 a1, .int .i64 0, .int .i64 0, .int .i64 0, .int .i64 0, .int .i64 0, .bool a7] 24 (0, 0)) from (heap_setCell_same v3 u3.heap.size 0 _ _ (.int .i64 x) HG116.out))
        have HR122 := Lib.hid ((heap_setCell_other v3 ⟨u3.heap.size, 0, none⟩ u.heap.size (.int .i64 x) neGR).trans HR117.out)
        have gg123 := grownBy_new gg118 (p := ⟨u3.heap.size, 0, none⟩) uG (.int .i64 x)
        have zG124 : u3.heap.size < (v3.setCell ⟨u3.heap.size, 0, none⟩ (.int .i64 x)).heap.size := by simpa using zG119
        have zR125 : u.heap.size < (v3.setCell ⟨u3.heap.size, 0, none⟩ (.int .i64 x)).heap.size := by simpa using zR120
        have hD126 := hD3.set (p := ⟨u3.heap.size, 0, none⟩) neG wG (.int .i64 x)
        have c0 := cell_of_row v3 u3.heap.size 0 _ _ (0, 0) HG116.out
        have f0 := frozen_of_row v3 u3.heap.size 0 _ _ HG116.out
        simp at c0
        have n0 := cell_of_row (v3.setCell ⟨u3.heap.size, 0, none⟩ (.int .i64 x)) u3.heap.size 0 _ _ (0, 0) HG121.out
        have n1 := cell_of_row (v3.setCell ⟨u3.heap.size, 0, none⟩ (.int .i64 x)) u3.heap.size 1 _ _ (0, 0) HG121.out
        have n2 := cell_of_row (v3.setCell ⟨u3.heap.size, 0, none⟩ (.int .i64 x)) u3.heap.size 2 _ _ (0, 0) HG121.out
        have n3 := cell_of_row (v3.setCell ⟨u3.heap.size, 0, none⟩ (.int .i64 x)) u3.heap.size 3 _ _ (0, 0) HG121.out
        have n4 := cell_of_row (v3.setCell ⟨u3.heap.size, 0, none⟩ (.int .i64 x)) u3.heap.size 4 _ _ (0, 0) HG121.out
        have n5 := cell_of_row (v3.setCell ⟨u3.heap.size, 0, none⟩ (.int .i64 x)) u3.heap.size 5 _ _ (0, 0) HG121.out
        have n6 := cell_of_row (v3.setCell ⟨u3.heap.size, 0, none⟩ (.int .i64 x)) u3.heap.size 6 _ _ (0, 0) HG121.out
        have n7 := cell_of_row (v3.setCell ⟨u3.heap.size, 0, none⟩ (.int .i64 x)) u3.heap.size 7 _ _ (0, 0) HG121.out
        have r0 := cell_of_row (v3.setCell ⟨u3.heap.size, 0, none⟩ (.int .i64 x)) u.heap.size 0 _ _ (0, 0) HR122.out
        have r1 := cell_of_row (v3.setCell ⟨u3.heap.size, 0, none⟩ (.int .i64 x)) u.heap.size 1 _ _ (0, 0) HR122.out
        have r2 := cell_of_row (v3.setCell ⟨u3.heap.size, 0, none⟩ (.int .i64 x)) u.heap.size 2 _ _ (0, 0) HR122.out
        have r3 := cell_of_row (v3.setCell ⟨u3.heap.size, 0, none⟩ (.int .i64 x)) u.heap.size 3 _ _ (0, 0) HR122.out
        have r4 := cell_of_row (v3.setCell ⟨u3.heap.size, 0, none⟩ (.int .i64 x)) u.heap.size 4 _ _ (0, 0) HR122.out
        have r5 := cell_of_row (v3.setCell ⟨u3.heap.size, 0, none⟩ (.int .i64 x)) u.heap.size 5 _ _ (0, 0) HR122.out
        have r6 := cell_of_row (v3.setCell ⟨u3.heap.size, 0, none⟩ (.int .i64 x)) u.heap.size 6 _ _ (0, 0) HR122.out
        have r7 := cell_of_row (v3.setCell ⟨u3.heap.size, 0, none⟩ (.int .i64 x)) u.heap.size 7 _ _ (0, 0) HR122.out
        have e0 := frozen_of_row (v3.setCell ⟨u3.heap.size, 0, none⟩ (.int .i64 x)) u.heap.size 0 _ _ HR122.out
        have e1 := frozen_of_row (v3.setCell ⟨u3.heap.size, 0, none⟩ (.int .i64 x)) u.heap.size 1 _ _ HR122.out
        have e2 := frozen_of_row (v3.setCell ⟨u3.heap.size, 0, none⟩ (.int .i64 x)) u.heap.size 2 _ _ HR122.out
        have e3 := frozen_of_row (v3.setCell ⟨u3.heap.size, 0, none⟩ (.int .i64 x)) u.heap.size 3 _ _ HR122.out
        have e4 := frozen_of_row (v3.setCell ⟨u3.heap.size, 0, none⟩ (.int .i64 x)) u.heap.size 4 _ _ HR122.out
        have e5 := frozen_of_row (v3.setCell ⟨u3.heap.size, 0, none⟩ (.int .i64 x)) u.heap.size 5 _ _ HR122.out
        have e6 := frozen_of_row (v3.setCell ⟨u3.heap.size, 0, none⟩ (.int .i64 x)) u.heap.size 6 _ _ HR122.out
        have e7 := frozen_of_row (v3.setCell ⟨u3.heap.size, 0, none⟩ (.int .i64 x)) u.heap.size 7 _ _ HR122.out
        simp only [List.getElem?_toArray, List.getElem?_cons_zero, List.getElem?_cons_succ] at n0 n1 n2 n3 n4 n5 n6 n7 r0 r1 r2 r3 r4 r5 r6 r7
        go_wp2
        exact bodyPost_ret (v := .agg #[.int .i64 x, .int .i64 a1, .int .i64 0, .int .i64 0, .int .i64 0, .int .i64 0, .int .i64 0, .bool a7]) (by simp [results, Try.results54, go_sem, r0, r1, r2, r3, r4, r5, r6, r7]) rfl
          ⟨⟨x, a1, 0, 0, 0, 0, 0, a7⟩, rfl, ((((((((hD126.set (p := ⟨u.heap.size, 0, none⟩) neR wR _).set (p := ⟨u.heap.size, 1, none⟩) neR wR _).set (p := ⟨u.heap.size, 2, none⟩) neR wR _).set (p := ⟨u.heap.size, 3, none⟩) neR wR _).set (p := ⟨u.heap.size, 4, none⟩) neR wR _).set (p := ⟨u.heap.size, 5, none⟩) neR wR _).set (p := ⟨u.heap.size, 6, none⟩) neR wR _).set (p := ⟨u.heap.size, 7, none⟩) neR wR _), (grownBy_new (grownBy_new (grownBy_new (grownBy_new (grownBy_new (grownBy_new (grownBy_new (grownBy_new gg123 (p := ⟨u.heap.size, 0, none⟩) (Nat.le_refl _) _) (p := ⟨u.heap.size, 1, none⟩) (Nat.le_refl _) _) (p := ⟨u.heap.size, 2, none⟩) (Nat.le_refl _) _) (p := ⟨u.heap.size, 3, none⟩) (Nat.le_refl _) _) (p := ⟨u.heap.size, 4, none⟩) (Nat.le_refl _) _) (p := ⟨u.heap.size, 5, none⟩) (Nat.le_refl _) _) (p := ⟨u.heap.size, 6, none⟩) (Nat.le_refl _) _) (p := ⟨u.heap.size, 7, none⟩) (Nat.le_refl _) _)⟩
      · skip
        go_wp2_with fail
        refine (n_next (hD2.alloc _) 2 (by omega)).mono ?_
        rintro e v3 ⟨j, rfl, j0, jm, hD3, gC⟩
        obtain ⟨x, hx, hm⟩ := pick_cell [2047, 2048] hS2 gC j.toNat (by simp; omega)
        have hj : j < 2 := by omega
        clear hm jm
        have gD := grownBy_trans (World.grownBy_alloc _ _ _) gC
        have HG127 := Lib.hid ((gD.block u3.heap.size zG114 (fun e => neG (Option.some.inj e))).trans HG111.out)
        have HR128 := Lib.hid ((gD.block u.heap.size zR115 (fun e => neR (Option.some.inj e))).trans HR112.out)
        have gg129 := grownBy_trans gg113 gD
        have zG130 : u3.heap.size < v3.heap.size := Nat.lt_of_lt_of_le zG114 gD.size
        have zR131 : u.heap.size < v3.heap.size := Nat.lt_of_lt_of_le zR115 gD.size
        have HG132 := Lib.hid (show (v3.setCell ⟨u3.heap.size, 1, none⟩ (.int .i64 x)).heap[u3.heap.size]? = some (.cells #[.int .i64 a0, .int .i64 x, .int .i64 0, .int .i64 0, .int .i64 0, .int .i64 0, .int .i64 0, .bool a7] 24 (0, 0)) from (heap_setCell_same v3 u3.heap.size 1 _ _ (.int .i64 x) HG127.out))
        have HR133 := Lib.hid ((heap_setCell_other v3 ⟨u3.heap.size, 1, none⟩ u.heap.size (.int .i64 x) neGR).trans HR128.out)
        have gg134 := grownBy_new gg129 (p := ⟨u3.heap.size, 1, none⟩) uG (.int .i64 x)
        have zG135 : u3.heap.size < (v3.setCell ⟨u3.heap.size, 1, none⟩ (.int .i64 x)).heap.size := by simpa using zG130
        have zR136 : u.heap.size < (v3.setCell ⟨u3.heap.size, 1, none⟩ (.int .i64 x)).heap.size := by simpa using zR131
        have hD137 := hD3.set (p := ⟨u3.heap.size, 1, none⟩) neG wG (.int .i64 x)
        have c1 := cell_of_row v3 u3.heap.size 1 _ _ (0, 0) HG127.out
        have f1 := frozen_of_row v3 u3.heap.size 1 _ _ HG127.out
        simp at c1
        have n0 := cell_of_row (v3.setCell ⟨u3.heap.size, 1, none⟩ (.int .i64 x)) u3.heap.size 0 _ _ (0, 0) HG132.out
        have n1 := cell_of_row (v3.setCell ⟨u3.heap.size, 1, none⟩ (.int .i64 x)) u3.heap.size 1 _ _ (0, 0) HG132.out
        have n2 := cell_of_row (v3.setCell ⟨u3.heap.size, 1, none⟩ (.int .i64 x)) u3.heap.size 2 _ _ (0, 0) HG132.out
        have n3 := cell_of_row (v3.setCell ⟨u3.heap.size, 1, none⟩ (.int .i64 x)) u3.heap.size 3 _ _ (0, 0) HG132.out
        have n4 := cell_of_row (v3.setCell ⟨u3.heap.size, 1, none⟩ (.int .i64 x)) u3.heap.size 4 _ _ (0, 0) HG132.out
        have n5 := cell_of_row (v3.setCell ⟨u3.heap.size, 1, none⟩ (.int .i64 x)) u3.heap.size 5 _ _ (0, 0) HG132.out
        have n6 := cell_of_row (v3.setCell ⟨u3.heap.size, 1, none⟩ (.int .i64 x)) u3.heap.size 6 _ _ (0, 0) HG132.out
        have n7 := cell_of_row (v3.setCell ⟨u3.heap.size, 1, none⟩ (.int .i64 x)) u3.heap.size 7 _ _ (0, 0) HG132.out
        have r0 := cell_of_row (v3.setCell ⟨u3.heap.size, 1, none⟩ (.int .i64 x)) u.heap.size 0 _ _ (0, 0) HR133.out
        have r1 := cell_of_row (v3.setCell ⟨u3.heap.size, 1, none⟩ (.int .i64 x)) u.heap.size 1 _ _ (0, 0) HR133.out
        have r2 := cell_of_row (v3.setCell ⟨u3.heap.size, 1, none⟩ (.int .i64 x)) u.heap.size 2 _ _ (0, 0) HR133.out
        have r3 := cell_of_row (v3.setCell ⟨u3.heap.size, 1, none⟩ (.int .i64 x)) u.heap.size 3 _ _ (0, 0) HR133.out
        have r4 := cell_of_row (v3.setCell ⟨u3.heap.size, 1, none⟩ (.int .i64 x)) u.heap.size 4 _ _ (0, 0) HR133.out
        have r5 := cell_of_row (v3.setCell ⟨u3.heap.size, 1, none⟩ (.int .i64 x)) u.heap.size 5 _ _ (0, 0) HR133.out
        have r6 := cell_of_row (v3.setCell ⟨u3.heap.size, 1, none⟩ (.int .i64 x)) u.heap.size 6 _ _ (0, 0) HR133.out
        have r7 := cell_of_row (v3.setCell ⟨u3.heap.size, 1, none⟩ (.int .i64 x)) u.heap.size 7 _ _ (0, 0) HR133.out
        have e0 := frozen_of_row (v3.setCell ⟨u3.heap.size, 1, none⟩ (.int .i64 x)) u.heap.size 0 _ _ HR133.out
        have e1 := frozen_of_row (v3.setCell ⟨u3.heap.size, 1, none⟩ (.int .i64 x)) u.heap.size 1 _ _ HR133.out
        have e2 := frozen_of_row (v3.setCell ⟨u3.heap.size, 1, none⟩ (.int .i64 x)) u.heap.size 2 _ _ HR133.out
        have e3 := frozen_of_row (v3.setCell ⟨u3.heap.size, 1, none⟩ (.int .i64 x)) u.heap.size 3 _ _ HR133.out
        have e4 := frozen_of_row (v3.setCell ⟨u3.heap.size, 1, none⟩ (.int .i64 x)) u.heap.size 4 _ _ HR133.out
        have e5 := frozen_of_row (v3.setCell ⟨u3.heap.size, 1, none⟩ (.int .i64 x)) u.heap.size 5 _ _ HR133.out
        have e6 := frozen_of_row (v3.setCell ⟨u3.heap.size, 1, none⟩ (.int .i64 x)) u.heap.size 6 _ _ HR133.out
        have e7 := frozen_of_row (v3.setCell ⟨u3.heap.size, 1, none⟩ (.int .i64 x)) u.heap.size 7 _ _ HR133.out
        simp only [List.getElem?_toArray, List.getElem?_cons_zero, List.getElem?_cons_succ] at n0 n1 n2 n3 n4 n5 n6 n7 r0 r1 r2 r3 r4 r5 r6 r7
        go_wp2
        exact bodyPost_ret (v := .agg #[.int .i64 a0, .int .i64 x, .int .i64 0, .int .i64 0, .int .i64 0, .int .i64 0, .int .i64 0, .bool a7]) (by simp [results, Try.results54, go_sem, r0, r1, r2, r3, r4, r5, r6, r7]) rfl
          ⟨⟨a0, x, 0, 0, 0, 0, 0, a7⟩, rfl, ((((((((hD137.set (p := ⟨u.heap.size, 0, none⟩) neR wR _).set (p := ⟨u.heap.size, 1, none⟩) neR wR _).set (p := ⟨u.heap.size, 2, none⟩) neR wR _).set (p := ⟨u.heap.size, 3, none⟩) neR wR _).set (p := ⟨u.heap.size, 4, none⟩) neR wR _).set (p := ⟨u.heap.size, 5, none⟩) neR wR _).set (p := ⟨u.heap.size, 6, none⟩) neR wR _).set (p := ⟨u.heap.size, 7, none⟩) neR wR _), (grownBy_new (grownBy_new (grownBy_new (grownBy_new (grownBy_new (grownBy_new (grownBy_new (grownBy_new gg134 (p := ⟨u.heap.size, 0, none⟩) (Nat.le_refl _) _) (p := ⟨u.heap.size, 1, none⟩) (Nat.le_refl _) _) (p := ⟨u.heap.size, 2, none⟩) (Nat.le_refl _) _) (p := ⟨u.heap.size, 3, none⟩) (Nat.le_refl _) _) (p := ⟨u.heap.size, 4, none⟩) (Nat.le_refl _) _) (p := ⟨u.heap.size, 5, none⟩) (Nat.le_refl _) _) (p := ⟨u.heap.size, 6, none⟩) (Nat.le_refl _) _) (p := ⟨u.heap.size, 7, none⟩) (Nat.le_refl _) _)⟩
      · skip
        go_wp2_with fail
        refine (n_next (hD2.alloc _) 2 (by omega)).mono ?_
        rintro e v3 ⟨j, rfl, j0, jm, hD3, gC⟩
        obtain ⟨x, hx, hm⟩ := pick_cell [-1, 128] hS2 gC j.toNat (by simp; omega)
        have hj : j < 2 := by omega
        clear hm jm
        have gD := grownBy_trans (World.grownBy_alloc _ _ _) gC
        have HG138 := Lib.hid ((gD.block u3.heap.size zG114 (fun e => neG (Option.some.inj e))).trans HG111.out)
        have HR139 := Lib.hid ((gD.block u.heap.size zR115 (fun e => neR (Option.some.inj e))).trans HR112.out)
        have gg140 := grownBy_trans gg113 gD
        have zG141 : u3.heap.size < v3.heap.size := Nat.lt_of_lt_of_le zG114 gD.size
        have zR142 : u.heap.size < v3.heap.size := Nat.lt_of_lt_of_le zR115 gD.size
        have HG143 := Lib.hid (show (v3.setCell ⟨u3.heap.size, 4, none⟩ (.int .i64 x)).heap[u3.heap.size]? = some (.cells #[.int .i64 a0, .int .i64 a1, .int .i64 0, .int .i64 0, .int .i64 x, .int .i64 0, .int .i64 0, .bool a7] 24 (0, 0)) from (heap_setCell_same v3 u3.heap.size 4 _ _ (.int .i64 x) HG138.out))
        have HR144 := Lib.hid ((heap_setCell_other v3 ⟨u3.heap.size, 4, none⟩ u.heap.size (.int .i64 x) neGR).trans HR139.out)
        have gg145 := grownBy_new gg140 (p := ⟨u3.heap.size, 4, none⟩) uG (.int .i64 x)
        have zG146 : u3.heap.size < (v3.setCell ⟨u3.heap.size, 4, none⟩ (.int .i64 x)).heap.size := by simpa using zG141
        have zR147 : u.heap.size < (v3.setCell ⟨u3.heap.size, 4, none⟩ (.int .i64 x)).heap.size := by simpa using zR142
        have hD148 := hD3.set (p := ⟨u3.heap.size, 4, none⟩) neG wG (.int .i64 x)
        have c4 := cell_of_row v3 u3.heap.size 4 _ _ (0, 0) HG138.out
        have f4 := frozen_of_row v3 u3.heap.size 4 _ _ HG138.out
        simp at c4
        have n0 := cell_of_row (v3.setCell ⟨u3.heap.size, 4, none⟩ (.int .i64 x)) u3.heap.size 0 _ _ (0, 0) HG143.out
        have n1 := cell_of_row (v3.setCell ⟨u3.heap.size, 4, none⟩ (.int .i64 x)) u3.heap.size 1 _ _ (0, 0) HG143.out
        have n2 := cell_of_row (v3.setCell ⟨u3.heap.size, 4, none⟩ (.int .i64 x)) u3.heap.size 2 _ _ (0, 0) HG143.out
        have n3 := cell_of_row (v3.setCell ⟨u3.heap.size, 4, none⟩ (.int .i64 x)) u3.heap.size 3 _ _ (0, 0) HG143.out
        have n4 := cell_of_row (v3.setCell ⟨u3.heap.size, 4, none⟩ (.int .i64 x)) u3.heap.size 4 _ _ (0, 0) HG143.out
        have n5 := cell_of_row (v3.setCell ⟨u3.heap.size, 4, none⟩ (.int .i64 x)) u3.heap.size 5 _ _ (0, 0) HG143.out
        have n6 := cell_of_row (v3.setCell ⟨u3.heap.size, 4, none⟩ (.int .i64 x)) u3.heap.size 6 _ _ (0, 0) HG143.out
        have n7 := cell_of_row (v3.setCell ⟨u3.heap.size, 4, none⟩ (.int .i64 x)) u3.heap.size 7 _ _ (0, 0) HG143.out
        have r0 := cell_of_row (v3.setCell ⟨u3.heap.size, 4, none⟩ (.int .i64 x)) u.heap.size 0 _ _ (0, 0) HR144.out
        have r1 := cell_of_row (v3.setCell ⟨u3.heap.size, 4, none⟩ (.int .i64 x)) u.heap.size 1 _ _ (0, 0) HR144.out
        have r2 := cell_of_row (v3.setCell ⟨u3.heap.size, 4, none⟩ (.int .i64 x)) u.heap.size 2 _ _ (0, 0) HR144.out
        have r3 := cell_of_row (v3.setCell ⟨u3.heap.size, 4, none⟩ (.int .i64 x)) u.heap.size 3 _ _ (0, 0) HR144.out
        have r4 := cell_of_row (v3.setCell ⟨u3.heap.size, 4, none⟩ (.int .i64 x)) u.heap.size 4 _ _ (0, 0) HR144.out
        have r5 := cell_of_row (v3.setCell ⟨u3.heap.size, 4, none⟩ (.int .i64 x)) u.heap.size 5 _ _ (0, 0) HR144.out
        have r6 := cell_of_row (v3.setCell ⟨u3.heap.size, 4, none⟩ (.int .i64 x)) u.heap.size 6 _ _ (0, 0) HR144.out
        have r7 := cell_of_row (v3.setCell ⟨u3.heap.size, 4, none⟩ (.int .i64 x)) u.heap.size 7 _ _ (0, 0) HR144.out
        have e0 := frozen_of_row (v3.setCell ⟨u3.heap.size, 4, none⟩ (.int .i64 x)) u.heap.size 0 _ _ HR144.out
        have e1 := frozen_of_row (v3.setCell ⟨u3.heap.size, 4, none⟩ (.int .i64 x)) u.heap.size 1 _ _ HR144.out
        have e2 := frozen_of_row (v3.setCell ⟨u3.heap.size, 4, none⟩ (.int .i64 x)) u.heap.size 2 _ _ HR144.out
        have e3 := frozen_of_row (v3.setCell ⟨u3.heap.size, 4, none⟩ (.int .i64 x)) u.heap.size 3 _ _ HR144.out
        have e4 := frozen_of_row (v3.setCell ⟨u3.heap.size, 4, none⟩ (.int .i64 x)) u.heap.size 4 _ _ HR144.out
        have e5 := frozen_of_row (v3.setCell ⟨u3.heap.size, 4, none⟩ (.int .i64 x)) u.heap.size 5 _ _ HR144.out
        have e6 := frozen_of_row (v3.setCell ⟨u3.heap.size, 4, none⟩ (.int .i64 x)) u.heap.size 6 _ _ HR144.out
        have e7 := frozen_of_row (v3.setCell ⟨u3.heap.size, 4, none⟩ (.int .i64 x)) u.heap.size 7 _ _ HR144.out
        simp only [List.getElem?_toArray, List.getElem?_cons_zero, List.getElem?_cons_succ] at n0 n1 n2 n3 n4 n5 n6 n7 r0 r1 r2 r3 r4 r5 r6 r7
        go_wp2
        exact bodyPost_ret (v := .agg #[.int .i64 a0, .int .i64 a1, .int .i64 0, .int .i64 0, .int .i64 x, .int .i64 0, .int .i64 0, .bool a7]) (by simp [results, Try.results54, go_sem, r0, r1, r2, r3, r4, r5, r6, r7]) rfl
          ⟨⟨a0, a1, 0, 0, x, 0, 0, a7⟩, rfl, ((((((((hD148.set (p := ⟨u.heap.size, 0, none⟩) neR wR _).set (p := ⟨u.heap.size, 1, none⟩) neR wR _).set (p := ⟨u.heap.size, 2, none⟩) neR wR _).set (p := ⟨u.heap.size, 3, none⟩) neR wR _).set (p := ⟨u.heap.size, 4, none⟩) neR wR _).set (p := ⟨u.heap.size, 5, none⟩) neR wR _).set (p := ⟨u.heap.size, 6, none⟩) neR wR _).set (p := ⟨u.heap.size, 7, none⟩) neR wR _), (grownBy_new (grownBy_new (grownBy_new (grownBy_new (grownBy_new (grownBy_new (grownBy_new (grownBy_new gg145 (p := ⟨u.heap.size, 0, none⟩) (Nat.le_refl _) _) (p := ⟨u.heap.size, 1, none⟩) (Nat.le_refl _) _) (p := ⟨u.heap.size, 2, none⟩) (Nat.le_refl _) _) (p := ⟨u.heap.size, 3, none⟩) (Nat.le_refl _) _) (p := ⟨u.heap.size, 4, none⟩) (Nat.le_refl _) _) (p := ⟨u.heap.size, 5, none⟩) (Nat.le_refl _) _) (p := ⟨u.heap.size, 6, none⟩) (Nat.le_refl _) _) (p := ⟨u.heap.size, 7, none⟩) (Nat.le_refl _) _)⟩
      · skip
        have HG149 := Lib.hid (show (v2.setCell ⟨u3.heap.size, 6, none⟩ (.int .i64 8)).heap[u3.heap.size]? = some (.cells #[.int .i64 a0, .int .i64 a1, .int .i64 0, .int .i64 0, .int .i64 0, .int .i64 0, .int .i64 8, .bool a7] 24 (0, 0)) from (heap_setCell_same v2 u3.heap.size 6 _ _ (.int .i64 8) HG111.out))
        have HR150 := Lib.hid ((heap_setCell_other v2 ⟨u3.heap.size, 6, none⟩ u.heap.size (.int .i64 8) neGR).trans HR112.out)
        have gg151 := grownBy_new gg113 (p := ⟨u3.heap.size, 6, none⟩) uG (.int .i64 8)
        have zG152 : u3.heap.size < (v2.setCell ⟨u3.heap.size, 6, none⟩ (.int .i64 8)).heap.size := by simpa using zG114
        have zR153 : u.heap.size < (v2.setCell ⟨u3.heap.size, 6, none⟩ (.int .i64 8)).heap.size := by simpa using zR115
        have hD154 := hD2.set (p := ⟨u3.heap.size, 6, none⟩) neG wG (.int .i64 8)
        have c6 := cell_of_row v2 u3.heap.size 6 _ _ (0, 0) HG111.out
        have f6 := frozen_of_row v2 u3.heap.size 6 _ _ HG111.out
        simp at c6
        have n0 := cell_of_row (v2.setCell ⟨u3.heap.size, 6, none⟩ (.int .i64 8)) u3.heap.size 0 _ _ (0, 0) HG149.out
        have n1 := cell_of_row (v2.setCell ⟨u3.heap.size, 6, none⟩ (.int .i64 8)) u3.heap.size 1 _ _ (0, 0) HG149.out
        have n2 := cell_of_row (v2.setCell ⟨u3.heap.size, 6, none⟩ (.int .i64 8)) u3.heap.size 2 _ _ (0, 0) HG149.out
        have n3 := cell_of_row (v2.setCell ⟨u3.heap.size, 6, none⟩ (.int .i64 8)) u3.heap.size 3 _ _ (0, 0) HG149.out
        have n4 := cell_of_row (v2.setCell ⟨u3.heap.size, 6, none⟩ (.int .i64 8)) u3.heap.size 4 _ _ (0, 0) HG149.out
        have n5 := cell_of_row (v2.setCell ⟨u3.heap.size, 6, none⟩ (.int .i64 8)) u3.heap.size 5 _ _ (0, 0) HG149.out
        have n6 := cell_of_row (v2.setCell ⟨u3.heap.size, 6, none⟩ (.int .i64 8)) u3.heap.size 6 _ _ (0, 0) HG149.out
        have n7 := cell_of_row (v2.setCell ⟨u3.heap.size, 6, none⟩ (.int .i64 8)) u3.heap.size 7 _ _ (0, 0) HG149.out
        have r0 := cell_of_row (v2.setCell ⟨u3.heap.size, 6, none⟩ (.int .i64 8)) u.heap.size 0 _ _ (0, 0) HR150.out
        have r1 := cell_of_row (v2.setCell ⟨u3.heap.size, 6, none⟩ (.int .i64 8)) u.heap.size 1 _ _ (0, 0) HR150.out
        have r2 := cell_of_row (v2.setCell ⟨u3.heap.size, 6, none⟩ (.int .i64 8)) u.heap.size 2 _ _ (0, 0) HR150.out
        have r3 := cell_of_row (v2.setCell ⟨u3.heap.size, 6, none⟩ (.int .i64 8)) u.heap.size 3 _ _ (0, 0) HR150.out
        have r4 := cell_of_row (v2.setCell ⟨u3.heap.size, 6, none⟩ (.int .i64 8)) u.heap.size 4 _ _ (0, 0) HR150.out
        have r5 := cell_of_row (v2.setCell ⟨u3.heap.size, 6, none⟩ (.int .i64 8)) u.heap.size 5 _ _ (0, 0) HR150.out
        have r6 := cell_of_row (v2.setCell ⟨u3.heap.size, 6, none⟩ (.int .i64 8)) u.heap.size 6 _ _ (0, 0) HR150.out
        have r7 := cell_of_row (v2.setCell ⟨u3.heap.size, 6, none⟩ (.int .i64 8)) u.heap.size 7 _ _ (0, 0) HR150.out
        have e0 := frozen_of_row (v2.setCell ⟨u3.heap.size, 6, none⟩ (.int .i64 8)) u.heap.size 0 _ _ HR150.out
        have e1 := frozen_of_row (v2.setCell ⟨u3.heap.size, 6, none⟩ (.int .i64 8)) u.heap.size 1 _ _ HR150.out
        have e2 := frozen_of_row (v2.setCell ⟨u3.heap.size, 6, none⟩ (.int .i64 8)) u.heap.size 2 _ _ HR150.out
        have e3 := frozen_of_row (v2.setCell ⟨u3.heap.size, 6, none⟩ (.int .i64 8)) u.heap.size 3 _ _ HR150.out
        have e4 := frozen_of_row (v2.setCell ⟨u3.heap.size, 6, none⟩ (.int .i64 8)) u.heap.size 4 _ _ HR150.out
        have e5 := frozen_of_row (v2.setCell ⟨u3.heap.size, 6, none⟩ (.int .i64 8)) u.heap.size 5 _ _ HR150.out
        have e6 := frozen_of_row (v2.setCell ⟨u3.heap.size, 6, none⟩ (.int .i64 8)) u.heap.size 6 _ _ HR150.out
        have e7 := frozen_of_row (v2.setCell ⟨u3.heap.size, 6, none⟩ (.int .i64 8)) u.heap.size 7 _ _ HR150.out
        simp only [List.getElem?_toArray, List.getElem?_cons_zero, List.getElem?_cons_succ] at n0 n1 n2 n3 n4 n5 n6 n7 r0 r1 r2 r3 r4 r5 r6 r7
        go_wp2
        exact bodyPost_ret (v := .agg #[.int .i64 a0, .int .i64 a1, .int .i64 0, .int .i64 0, .int .i64 0, .int .i64 0, .int .i64 8, .bool a7]) (by simp [results, Try.results54, go_sem, r0, r1, r2, r3, r4, r5, r6, r7]) rfl
          ⟨⟨a0, a1, 0, 0, 0, 0, 8, a7⟩, rfl, ((((((((hD154.set (p := ⟨u.heap.size, 0, none⟩) neR wR _).set (p := ⟨u.heap.size, 1, none⟩) neR wR _).set (p := ⟨u.heap.size, 2, none⟩) neR wR _).set (p := ⟨u.heap.size, 3, none⟩) neR wR _).set (p := ⟨u.heap.size, 4, none⟩) neR wR _).set (p := ⟨u.heap.size, 5, none⟩) neR wR _).set (p := ⟨u.heap.size, 6, none⟩) neR wR _).set (p := ⟨u.heap.size, 7, none⟩) neR wR _), (grownBy_new (grownBy_new (grownBy_new (grownBy_new (grownBy_new (grownBy_new (grownBy_new (grownBy_new gg151 (p := ⟨u.heap.size, 0, none⟩) (Nat.le_refl _) _) (p := ⟨u.heap.size, 1, none⟩) (Nat.le_refl _) _) (p := ⟨u.heap.size, 2, none⟩) (Nat.le_refl _) _) (p := ⟨u.heap.size, 3, none⟩) (Nat.le_refl _) _) (p := ⟨u.heap.size, 4, none⟩) (Nat.le_refl _) _) (p := ⟨u.heap.size, 5, none⟩) (Nat.le_refl _) _) (p := ⟨u.heap.size, 6, none⟩) (Nat.le_refl _) _) (p := ⟨u.heap.size, 7, none⟩) (Nat.le_refl _) _)⟩
  · skip
    go_wp2_with fail
    refine (n_next hD5 128 (by omega)).mono ?_
    rintro e x0 ⟨b0, rfl, _, _, hE0, gE0⟩
    have HG155 := Lib.hid ((gE0.block u3.heap.size zG104 (fun e => neG (Option.some.inj e))).trans HG101.out)
    have HR156 := Lib.hid ((gE0.block u.heap.size zR105 (fun e => neR (Option.some.inj e))).trans HR102.out)
    have gg157 := grownBy_trans gg103 gE0
    have zG158 : u3.heap.size < x0.heap.size := Nat.lt_of_lt_of_le zG104 gE0.size
    have zR159 : u.heap.size < x0.heap.size := Nat.lt_of_lt_of_le zR105 gE0.size
    clear HG101 HR102 gg103 zG104 zR105 hD5
    have HG160 := Lib.hid (show (x0.setCell ⟨u3.heap.size, 4, none⟩ (.int .i64 b0)).heap[u3.heap.size]? = some (.cells #[.int .i64 a0, .int .i64 a1, .int .i64 0, .int .i64 0, .int .i64 b0, .int .i64 0, .int .i64 0, .bool a7] 24 (0, 0)) from (heap_setCell_same x0 u3.heap.size 4 _ _ (.int .i64 b0) HG155.out))
    have HR161 := Lib.hid ((heap_setCell_other x0 ⟨u3.heap.size, 4, none⟩ u.heap.size (.int .i64 b0) neGR).trans HR156.out)
    have gg162 := grownBy_new gg157 (p := ⟨u3.heap.size, 4, none⟩) uG (.int .i64 b0)
    have zG163 : u3.heap.size < (x0.setCell ⟨u3.heap.size, 4, none⟩ (.int .i64 b0)).heap.size := by simpa using zG158
    have zR164 : u.heap.size < (x0.setCell ⟨u3.heap.size, 4, none⟩ (.int .i64 b0)).heap.size := by simpa using zR159
    have hD165 := hE0.set (p := ⟨u3.heap.size, 4, none⟩) neG wG (.int .i64 b0)
    have c4 := cell_of_row x0 u3.heap.size 4 _ _ (0, 0) HG155.out
    have f4 := frozen_of_row x0 u3.heap.size 4 _ _ HG155.out
    simp at c4
    clear HG155 HR156 gg157 zG158 zR159 hE0
    clear gE0
    go_wp2_with fail
    refine (n_next hD165 256 (by omega)).mono ?_
    rintro e x1 ⟨b1, rfl, _, _, hE1, gE1⟩
    have HG166 := Lib.hid ((gE1.block u3.heap.size zG163 (fun e => neG (Option.some.inj e))).trans HG160.out)
    have HR167 := Lib.hid ((gE1.block u.heap.size zR164 (fun e => neR (Option.some.inj e))).trans HR161.out)
    have gg168 := grownBy_trans gg162 gE1
    have zG169 : u3.heap.size < x1.heap.size := Nat.lt_of_lt_of_le zG163 gE1.size
    have zR170 : u.heap.size < x1.heap.size := Nat.lt_of_lt_of_le zR164 gE1.size
    clear HG160 HR161 gg162 zG163 zR164 hD165
    have HG171 := Lib.hid (show (x1.setCell ⟨u3.heap.size, 2, none⟩ (.int .i64 b1)).heap[u3.heap.size]? = some (.cells #[.int .i64 a0, .int .i64 a1, .int .i64 b1, .int .i64 0, .int .i64 b0, .int .i64 0, .int .i64 0, .bool a7] 24 (0, 0)) from (heap_setCell_same x1 u3.heap.size 2 _ _ (.int .i64 b1) HG166.out))
    have HR172 := Lib.hid ((heap_setCell_other x1 ⟨u3.heap.size, 2, none⟩ u.heap.size (.int .i64 b1) neGR).trans HR167.out)
    have gg173 := grownBy_new gg168 (p := ⟨u3.heap.size, 2, none⟩) uG (.int .i64 b1)
    have zG174 : u3.heap.size < (x1.setCell ⟨u3.heap.size, 2, none⟩ (.int .i64 b1)).heap.size := by simpa using zG169
    have zR175 : u.heap.size < (x1.setCell ⟨u3.heap.size, 2, none⟩ (.int .i64 b1)).heap.size := by simpa using zR170
    have hD176 := hE1.set (p := ⟨u3.heap.size, 2, none⟩) neG wG (.int .i64 b1)
    have c2 := cell_of_row x1 u3.heap.size 2 _ _ (0, 0) HG166.out
    have f2 := frozen_of_row x1 u3.heap.size 2 _ _ HG166.out
    simp at c2
    clear HG166 HR167 gg168 zG169 zR170 hE1
    clear gE1
    go_wp2_with fail
    refine (n_next hD176 16 (by omega)).mono ?_
    rintro e x2 ⟨b2, rfl, _, _, hE2, gE2⟩
    have HG177 := Lib.hid ((gE2.block u3.heap.size zG174 (fun e => neG (Option.some.inj e))).trans HG171.out)
    have HR178 := Lib.hid ((gE2.block u.heap.size zR175 (fun e => neR (Option.some.inj e))).trans HR172.out)
    have gg179 := grownBy_trans gg173 gE2
    have zG180 : u3.heap.size < x2.heap.size := Nat.lt_of_lt_of_le zG174 gE2.size
    have zR181 : u.heap.size < x2.heap.size := Nat.lt_of_lt_of_le zR175 gE2.size
    clear HG171 HR172 gg173 zG174 zR175 hD176
    have HG182 := Lib.hid (show (x2.setCell ⟨u3.heap.size, 5, none⟩ (.int .i64 b2)).heap[u3.heap.size]? = some (.cells #[.int .i64 a0, .int .i64 a1, .int .i64 b1, .int .i64 0, .int .i64 b0, .int .i64 b2, .int .i64 0, .bool a7] 24 (0, 0)) from (heap_setCell_same x2 u3.heap.size 5 _ _ (.int .i64 b2) HG177.out))
    have HR183 := Lib.hid ((heap_setCell_other x2 ⟨u3.heap.size, 5, none⟩ u.heap.size (.int .i64 b2) neGR).trans HR178.out)
    have gg184 := grownBy_new gg179 (p := ⟨u3.heap.size, 5, none⟩) uG (.int .i64 b2)
    have zG185 : u3.heap.size < (x2.setCell ⟨u3.heap.size, 5, none⟩ (.int .i64 b2)).heap.size := by simpa using zG180
    have zR186 : u.heap.size < (x2.setCell ⟨u3.heap.size, 5, none⟩ (.int .i64 b2)).heap.size := by simpa using zR181
    have hD187 := hE2.set (p := ⟨u3.heap.size, 5, none⟩) neG wG (.int .i64 b2)
    have c5 := cell_of_row x2 u3.heap.size 5 _ _ (0, 0) HG177.out
    have f5 := frozen_of_row x2 u3.heap.size 5 _ _ HG177.out
    simp at c5
    clear HG177 HR178 gg179 zG180 zR181 hE2
    clear gE2
    go_wp2_with fail
    refine (n_next hD187 8 (by omega)).mono ?_
    rintro e x3 ⟨b3, rfl, _, _, hE3, gE3⟩
    have HG188 := Lib.hid ((gE3.block u3.heap.size zG185 (fun e => neG (Option.some.inj e))).trans HG182.out)
    have HR189 := Lib.hid ((gE3.block u.heap.size zR186 (fun e => neR (Option.some.inj e))).trans HR183.out)
    have gg190 := grownBy_trans gg184 gE3
    have zG191 : u3.heap.size < x3.heap.size := Nat.lt_of_lt_of_le zG185 gE3.size
    have zR192 : u.heap.size < x3.heap.size := Nat.lt_of_lt_of_le zR186 gE3.size
    clear HG182 HR183 gg184 zG185 zR186 hD187
    have HG193 := Lib.hid (show (x3.setCell ⟨u3.heap.size, 6, none⟩ (.int .i64 b3)).heap[u3.heap.size]? = some (.cells #[.int .i64 a0, .int .i64 a1, .int .i64 b1, .int .i64 0, .int .i64 b0, .int .i64 b2, .int .i64 b3, .bool a7] 24 (0, 0)) from (heap_setCell_same x3 u3.heap.size 6 _ _ (.int .i64 b3) HG188.out))
    have HR194 := Lib.hid ((heap_setCell_other x3 ⟨u3.heap.size, 6, none⟩ u.heap.size (.int .i64 b3) neGR).trans HR189.out)
    have gg195 := grownBy_new gg190 (p := ⟨u3.heap.size, 6, none⟩) uG (.int .i64 b3)
    have zG196 : u3.heap.size < (x3.setCell ⟨u3.heap.size, 6, none⟩ (.int .i64 b3)).heap.size := by simpa using zG191
    have zR197 : u.heap.size < (x3.setCell ⟨u3.heap.size, 6, none⟩ (.int .i64 b3)).heap.size := by simpa using zR192
    have hD198 := hE3.set (p := ⟨u3.heap.size, 6, none⟩) neG wG (.int .i64 b3)
    have c6 := cell_of_row x3 u3.heap.size 6 _ _ (0, 0) HG188.out
    have f6 := frozen_of_row x3 u3.heap.size 6 _ _ HG188.out
    simp at c6
    clear HG188 HR189 gg190 zG191 zR192 hE3
    clear gE3
    go_wp2_with fail
    refine (one_next hD198 15 (by omega)).mono ?_
    rintro e v1 ⟨o, rfl, hD1, gA⟩
    have HG199 := Lib.hid ((gA.block u3.heap.size zG196 (fun e => neG (Option.some.inj e))).trans HG193.out)
    have HR200 := Lib.hid ((gA.block u.heap.size zR197 (fun e => neR (Option.some.inj e))).trans HR194.out)
    have gg201 := grownBy_trans gg195 gA
    have zG202 : u3.heap.size < v1.heap.size := Nat.lt_of_lt_of_le zG196 gA.size
    have zR203 : u.heap.size < v1.heap.size := Nat.lt_of_lt_of_le zR197 gA.size
    clear HG193 HR194 gg195 zG196 zR197 hD198
    cases o
    · skip
      have n0 := cell_of_row v1 u3.heap.size 0 _ _ (0, 0) HG199.out
      have n1 := cell_of_row v1 u3.heap.size 1 _ _ (0, 0) HG199.out
      have n2 := cell_of_row v1 u3.heap.size 2 _ _ (0, 0) HG199.out
      have n3 := cell_of_row v1 u3.heap.size 3 _ _ (0, 0) HG199.out
      have n4 := cell_of_row v1 u3.heap.size 4 _ _ (0, 0) HG199.out
      have n5 := cell_of_row v1 u3.heap.size 5 _ _ (0, 0) HG199.out
      have n6 := cell_of_row v1 u3.heap.size 6 _ _ (0, 0) HG199.out
      have n7 := cell_of_row v1 u3.heap.size 7 _ _ (0, 0) HG199.out
      have r0 := cell_of_row v1 u.heap.size 0 _ _ (0, 0) HR200.out
      have r1 := cell_of_row v1 u.heap.size 1 _ _ (0, 0) HR200.out
      have r2 := cell_of_row v1 u.heap.size 2 _ _ (0, 0) HR200.out
      have r3 := cell_of_row v1 u.heap.size 3 _ _ (0, 0) HR200.out
      have r4 := cell_of_row v1 u.heap.size 4 _ _ (0, 0) HR200.out
      have r5 := cell_of_row v1 u.heap.size 5 _ _ (0, 0) HR200.out
      have r6 := cell_of_row v1 u.heap.size 6 _ _ (0, 0) HR200.out
      have r7 := cell_of_row v1 u.heap.size 7 _ _ (0, 0) HR200.out
      have e0 := frozen_of_row v1 u.heap.size 0 _ _ HR200.out
      have e1 := frozen_of_row v1 u.heap.size 1 _ _ HR200.out
      have e2 := frozen_of_row v1 u.heap.size 2 _ _ HR200.out
      have e3 := frozen_of_row v1 u.heap.size 3 _ _ HR200.out
      have e4 := frozen_of_row v1 u.heap.size 4 _ _ HR200.out
      have e5 := frozen_of_row v1 u.heap.size 5 _ _ HR200.out
      have e6 := frozen_of_row v1 u.heap.size 6 _ _ HR200.out
      have e7 := frozen_of_row v1 u.heap.size 7 _ _ HR200.out
      simp only [List.getElem?_toArray, List.getElem?_cons_zero, List.getElem?_cons_succ] at n0 n1 n2 n3 n4 n5 n6 n7 r0 r1 r2 r3 r4 r5 r6 r7
      go_wp2
      exact bodyPost_ret (v := .agg #[.int .i64 a0, .int .i64 a1, .int .i64 b1, .int .i64 0, .int .i64 b0, .int .i64 b2, .int .i64 b3, .bool a7]) (by simp [results, Try.results54, go_sem, r0, r1, r2, r3, r4, r5, r6, r7]) rfl
        ⟨⟨a0, a1, b1, 0, b0, b2, b3, a7⟩, rfl, ((((((((hD1.set (p := ⟨u.heap.size, 0, none⟩) neR wR _).set (p := ⟨u.heap.size, 1, none⟩) neR wR _).set (p := ⟨u.heap.size, 2, none⟩) neR wR _).set (p := ⟨u.heap.size, 3, none⟩) neR wR _).set (p := ⟨u.heap.size, 4, none⟩) neR wR _).set (p := ⟨u.heap.size, 5, none⟩) neR wR _).set (p := ⟨u.heap.size, 6, none⟩) neR wR _).set (p := ⟨u.heap.size, 7, none⟩) neR wR _), (grownBy_new (grownBy_new (grownBy_new (grownBy_new (grownBy_new (grownBy_new (grownBy_new (grownBy_new gg201 (p := ⟨u.heap.size, 0, none⟩) (Nat.le_refl _) _) (p := ⟨u.heap.size, 1, none⟩) (Nat.le_refl _) _) (p := ⟨u.heap.size, 2, none⟩) (Nat.le_refl _) _) (p := ⟨u.heap.size, 3, none⟩) (Nat.le_refl _) _) (p := ⟨u.heap.size, 4, none⟩) (Nat.le_refl _) _) (p := ⟨u.heap.size, 5, none⟩) (Nat.le_refl _) _) (p := ⟨u.heap.size, 6, none⟩) (Nat.le_refl _) _) (p := ⟨u.heap.size, 7, none⟩) (Nat.le_refl _) _)⟩
    · skip
      go_wp2_with fail
      refine (n_next hD1 4 (by omega)).mono ?_
      rintro e v2 ⟨k, rfl, k0, km, hD2, gB⟩
      have HG204 := Lib.hid ((gB.block u3.heap.size zG202 (fun e => neG (Option.some.inj e))).trans HG199.out)
      have HR205 := Lib.hid ((gB.block u.heap.size zR203 (fun e => neR (Option.some.inj e))).trans HR200.out)
      have gg206 := grownBy_trans gg201 gB
      have zG207 : u3.heap.size < v2.heap.size := Nat.lt_of_lt_of_le zG202 gB.size
      have zR208 : u.heap.size < v2.heap.size := Nat.lt_of_lt_of_le zR203 gB.size
      have hS2 := hD2.src.lt
      rcases (show k = 0 ∨ k = 1 ∨ k = 2 ∨ k = 3 by omega) with rfl | rfl | rfl | rfl
      · skip
        go_wp2_with fail
        refine (n_next (hD2.alloc _) 3 (by omega)).mono ?_
        rintro e v3 ⟨j, rfl, j0, jm, hD3, gC⟩
        obtain ⟨x, hx, hm⟩ := pick_cell [-1, 2097151, 2097152] hS2 gC j.toNat (by simp; omega)
        have hj : j < 3 := by omega
        clear hm jm
        have gD := grownBy_trans (World.grownBy_alloc _ _ _) gC
        have HG209 := Lib.hid ((gD.block u3.heap.size zG207 (fun e => neG (Option.some.inj e))).trans HG204.out)
        have HR210 := Lib.hid ((gD.block u.heap.size zR208 (fun e => neR (Option.some.inj e))).trans HR205.out)
        have gg211 := grownBy_trans gg206 gD
        have zG212 : u3.heap.size < v3.heap.size := Nat.lt_of_lt_of_le zG207 gD.size
        have zR213 : u.heap.size < v3.heap.size := Nat.lt_of_lt_of_le zR208 gD.size
        have HG214 := Lib.hid (show (v3.setCell ⟨u3.heap.size, 0, none⟩ (.int .i64 x)).heap[u3.heap.size]? = some (.cells #[.int .i64 x, .int .i64 a1, .int .i64 b1, .int .i64 0, .int .i64 b0, .int .i64 b2, .int .i64 b3, .bool a7] 24 (0, 0)) from (heap_setCell_same v3 u3.heap.size 0 _ _ (.int .i64 x) HG209.out))
        have HR215 := Lib.hid ((heap_setCell_other v3 ⟨u3.heap.size, 0, none⟩ u.heap.size (.int .i64 x) neGR).trans HR210.out)
        have gg216 := grownBy_new gg211 (p := ⟨u3.heap.size, 0, none⟩) uG (.int .i64 x)
        have zG217 : u3.heap.size < (v3.setCell ⟨u3.heap.size, 0, none⟩ (.int .i64 x)).heap.size := by simpa using zG212
        have zR218 : u.heap.size < (v3.setCell ⟨u3.heap.size, 0, none⟩ (.int .i64 x)).heap.size := by simpa using zR213
        have hD219 := hD3.set (p := ⟨u3.heap.size, 0, none⟩) neG wG (.int .i64 x)
        have c0 := cell_of_row v3 u3.heap.size 0 _ _ (0, 0) HG209.out
        have f0 := frozen_of_row v3 u3.heap.size 0 _ _ HG209.out
        simp at c0
        have n0 := cell_of_row (v3.setCell ⟨u3.heap.size, 0, none⟩ (.int .i64 x)) u3.heap.size 0 _ _ (0, 0) HG214.out
        have n1 := cell_of_row (v3.setCell ⟨u3.heap.size, 0, none⟩ (.int .i64 x)) u3.heap.size 1 _ _ (0, 0) HG214.out
        have n2 := cell_of_row (v3.setCell ⟨u3.heap.size, 0, none⟩ (.int .i64 x)) u3.heap.size 2 _ _ (0, 0) HG214.out
        have n3 := cell_of_row (v3.setCell ⟨u3.heap.size, 0, none⟩ (.int .i64 x)) u3.heap.size 3 _ _ (0, 0) HG214.out
        have n4 := cell_of_row (v3.setCell ⟨u3.heap.size, 0, none⟩ (.int .i64 x)) u3.heap.size 4 _ _ (0, 0) HG214.out
        have n5 := cell_of_row (v3.setCell ⟨u3.heap.size, 0, none⟩ (.int .i64 x)) u3.heap.size 5 _ _ (0, 0) HG214.out
        have n6 := cell_of_row (v3.setCell ⟨u3.heap.size, 0, none⟩ (.int .i64 x)) u3.heap.size 6 _ _ (0, 0) HG214.out
        have n7 := cell_of_row (v3.setCell ⟨u3.heap.size, 0, none⟩ (.int .i64 x)) u3.heap.size 7 _ _ (0, 0) HG214.out
        have r0 := cell_of_row (v3.setCell ⟨u3.heap.size, 0, none⟩ (.int .i64 x)) u.heap.size 0 _ _ (0, 0) HR215.out
        have r1 := cell_of_row (v3.setCell ⟨u3.heap.size, 0, none⟩ (.int .i64 x)) u.heap.size 1 _ _ (0, 0) HR215.out
        have r2 := cell_of_row (v3.setCell ⟨u3.heap.size, 0, none⟩ (.int .i64 x)) u.heap.size 2 _ _ (0, 0) HR215.out
        have r3 := cell_of_row (v3.setCell ⟨u3.heap.size, 0, none⟩ (.int .i64 x)) u.heap.size 3 _ _ (0, 0) HR215.out
        have r4 := cell_of_row (v3.setCell ⟨u3.heap.size, 0, none⟩ (.int .i64 x)) u.heap.size 4 _ _ (0, 0) HR215.out
        have r5 := cell_of_row (v3.setCell ⟨u3.heap.size, 0, none⟩ (.int .i64 x)) u.heap.size 5 _ _ (0, 0) HR215.out
        have r6 := cell_of_row (v3.setCell ⟨u3.heap.size, 0, none⟩ (.int .i64 x)) u.heap.size 6 _ _ (0, 0) HR215.out
        have r7 := cell_of_row (v3.setCell ⟨u3.heap.size, 0, none⟩ (.int .i64 x)) u.heap.size 7 _ _ (0, 0) HR215.out
        have e0 := frozen_of_row (v3.setCell ⟨u3.heap.size, 0, none⟩ (.int .i64 x)) u.heap.size 0 _ _ HR215.out
        have e1 := frozen_of_row (v3.setCell ⟨u3.heap.size, 0, none⟩ (.int .i64 x)) u.heap.size 1 _ _ HR215.out
        have e2 := frozen_of_row (v3.setCell ⟨u3.heap.size, 0, none⟩ (.int .i64 x)) u.heap.size 2 _ _ HR215.out
        have e3 := frozen_of_row (v3.setCell ⟨u3.heap.size, 0, none⟩ (.int .i64 x)) u.heap.size 3 _ _ HR215.out
        have e4 := frozen_of_row (v3.setCell ⟨u3.heap.size, 0, none⟩ (.int .i64 x)) u.heap.size 4 _ _ HR215.out
        have e5 := frozen_of_row (v3.setCell ⟨u3.heap.size, 0, none⟩ (.int .i64 x)) u.heap.size 5 _ _ HR215.out
        have e6 := frozen_of_row (v3.setCell ⟨u3.heap.size, 0, none⟩ (.int .i64 x)) u.heap.size 6 _ _ HR215.out
        have e7 := frozen_of_row (v3.setCell ⟨u3.heap.size, 0, none⟩ (.int .i64 x)) u.heap.size 7 _ _ HR215.out
        simp only [List.getElem?_toArray, List.getElem?_cons_zero, List.getElem?_cons_succ] at n0 n1 n2 n3 n4 n5 n6 n7 r0 r1 r2 r3 r4 r5 r6 r7
        go_wp2
        exact bodyPost_ret (v := .agg #[.int .i64 x, .int .i64 a1, .int .i64 b1, .int .i64 0, .int .i64 b0, .int .i64 b2, .int .i64 b3, .bool a7]) (by simp [results, Try.results54, go_sem, r0, r1, r2, r3, r4, r5, r6, r7]) rfl
          ⟨⟨x, a1, b1, 0, b0, b2, b3, a7⟩, rfl, ((((((((hD219.set (p := ⟨u.heap.size, 0, none⟩) neR wR _).set (p := ⟨u.heap.size, 1, none⟩) neR wR _).set (p := ⟨u.heap.size, 2, none⟩) neR wR _).set (p := ⟨u.heap.size, 3, none⟩) neR wR _).set (p := ⟨u.heap.size, 4, none⟩) neR wR _).set (p := ⟨u.heap.size, 5, none⟩) neR wR _).set (p := ⟨u.heap.size, 6, none⟩) neR wR _).set (p := ⟨u.heap.size, 7, none⟩) neR wR _), (grownBy_new (grownBy_new (grownBy_new (grownBy_new (grownBy_new (grownBy_new (grownBy_new (grownBy_new gg216 (p := ⟨u.heap.size, 0, none⟩) (Nat.le_refl _) _) (p := ⟨u.heap.size, 1, none⟩) (Nat.le_refl _) _) (p := ⟨u.heap.size, 2, none⟩) (Nat.le_refl _) _) (p := ⟨u.heap.size, 3, none⟩) (Nat.le_refl _) _) (p := ⟨u.heap.size, 4, none⟩) (Nat.le_refl _) _) (p := ⟨u.heap.size, 5, none⟩) (Nat.le_refl _) _) (p := ⟨u.heap.size, 6, none⟩) (Nat.le_refl _) _) (p := ⟨u.heap.size, 7, none⟩) (Nat.le_refl _) _)⟩
      · skip
        go_wp2_with fail
        refine (n_next (hD2.alloc _) 2 (by omega)).mono ?_
        rintro e v3 ⟨j, rfl, j0, jm, hD3, gC⟩
        obtain ⟨x, hx, hm⟩ := pick_cell [2047, 2048] hS2 gC j.toNat (by simp; omega)
        have hj : j < 2 := by omega
        clear hm jm
        have gD := grownBy_trans (World.grownBy_alloc _ _ _) gC
        have HG220 := Lib.hid ((gD.block u3.heap.size zG207 (fun e => neG (Option.some.inj e))).trans HG204.out)
        have HR221 := Lib.hid ((gD.block u.heap.size zR208 (fun e => neR (Option.some.inj e))).trans HR205.out)
        have gg222 := grownBy_trans gg206 gD
        have zG223 : u3.heap.size < v3.heap.size := Nat.lt_of_lt_of_le zG207 gD.size
        have zR224 : u.heap.size < v3.heap.size := Nat.lt_of_lt_of_le zR208 gD.size
        have HG225 := Lib.hid (show (v3.setCell ⟨u3.heap.size, 1, none⟩ (.int .i64 x)).heap[u3.heap.size]? = some (.cells #[.int .i64 a0, .int .i64 x, .int .i64 b1, .int .i64 0, .int .i64 b0, .int .i64 b2, .int .i64 b3, .bool a7] 24 (0, 0)) from (heap_setCell_same v3 u3.heap.size 1 _ _ (.int .i64 x) HG220.out))
        have HR226 := Lib.hid ((heap_setCell_other v3 ⟨u3.heap.size, 1, none⟩ u.heap.size (.int .i64 x) neGR).trans HR221.out)
        have gg227 := grownBy_new gg222 (p := ⟨u3.heap.size, 1, none⟩) uG (.int .i64 x)
        have zG228 : u3.heap.size < (v3.setCell ⟨u3.heap.size, 1, none⟩ (.int .i64 x)).heap.size := by simpa using zG223
        have zR229 : u.heap.size < (v3.setCell ⟨u3.heap.size, 1, none⟩ (.int .i64 x)).heap.size := by simpa using zR224
        have hD230 := hD3.set (p := ⟨u3.heap.size, 1, none⟩) neG wG (.int .i64 x)
        have c1 := cell_of_row v3 u3.heap.size 1 _ _ (0, 0) HG220.out
        have f1 := frozen_of_row v3 u3.heap.size 1 _ _ HG220.out
        simp at c1
        have n0 := cell_of_row (v3.setCell ⟨u3.heap.size, 1, none⟩ (.int .i64 x)) u3.heap.size 0 _ _ (0, 0) HG225.out
        have n1 := cell_of_row (v3.setCell ⟨u3.heap.size, 1, none⟩ (.int .i64 x)) u3.heap.size 1 _ _ (0, 0) HG225.out
        have n2 := cell_of_row (v3.setCell ⟨u3.heap.size, 1, none⟩ (.int .i64 x)) u3.heap.size 2 _ _ (0, 0) HG225.out
        have n3 := cell_of_row (v3.setCell ⟨u3.heap.size, 1, none⟩ (.int .i64 x)) u3.heap.size 3 _ _ (0, 0) HG225.out
        have n4 := cell_of_row (v3.setCell ⟨u3.heap.size, 1, none⟩ (.int .i64 x)) u3.heap.size 4 _ _ (0, 0) HG225.out
        have n5 := cell_of_row (v3.setCell ⟨u3.heap.size, 1, none⟩ (.int .i64 x)) u3.heap.size 5 _ _ (0, 0) HG225.out
        have n6 := cell_of_row (v3.setCell ⟨u3.heap.size, 1, none⟩ (.int .i64 x)) u3.heap.size 6 _ _ (0, 0) HG225.out
        have n7 := cell_of_row (v3.setCell ⟨u3.heap.size, 1, none⟩ (.int .i64 x)) u3.heap.size 7 _ _ (0, 0) HG225.out
        have r0 := cell_of_row (v3.setCell ⟨u3.heap.size, 1, none⟩ (.int .i64 x)) u.heap.size 0 _ _ (0, 0) HR226.out
        have r1 := cell_of_row (v3.setCell ⟨u3.heap.size, 1, none⟩ (.int .i64 x)) u.heap.size 1 _ _ (0, 0) HR226.out
        have r2 := cell_of_row (v3.setCell ⟨u3.heap.size, 1, none⟩ (.int .i64 x)) u.heap.size 2 _ _ (0, 0) HR226.out
        have r3 := cell_of_row (v3.setCell ⟨u3.heap.size, 1, none⟩ (.int .i64 x)) u.heap.size 3 _ _ (0, 0) HR226.out
        have r4 := cell_of_row (v3.setCell ⟨u3.heap.size, 1, none⟩ (.int .i64 x)) u.heap.size 4 _ _ (0, 0) HR226.out
        have r5 := cell_of_row (v3.setCell ⟨u3.heap.size, 1, none⟩ (.int .i64 x)) u.heap.size 5 _ _ (0, 0) HR226.out
        have r6 := cell_of_row (v3.setCell ⟨u3.heap.size, 1, none⟩ (.int .i64 x)) u.heap.size 6 _ _ (0, 0) HR226.out
        have r7 := cell_of_row (v3.setCell ⟨u3.heap.size, 1, none⟩ (.int .i64 x)) u.heap.size 7 _ _ (0, 0) HR226.out
        have e0 := frozen_of_row (v3.setCell ⟨u3.heap.size, 1, none⟩ (.int .i64 x)) u.heap.size 0 _ _ HR226.out
        have e1 := frozen_of_row (v3.setCell ⟨u3.heap.size, 1, none⟩ (.int .i64 x)) u.heap.size 1 _ _ HR226.out
        have e2 := frozen_of_row (v3.setCell ⟨u3.heap.size, 1, none⟩ (.int .i64 x)) u.heap.size 2 _ _ HR226.out
        have e3 := frozen_of_row (v3.setCell ⟨u3.heap.size, 1, none⟩ (.int .i64 x)) u.heap.size 3 _ _ HR226.out
        have e4 := frozen_of_row (v3.setCell ⟨u3.heap.size, 1, none⟩ (.int .i64 x)) u.heap.size 4 _ _ HR226.out
        have e5 := frozen_of_row (v3.setCell ⟨u3.heap.size, 1, none⟩ (.int .i64 x)) u.heap.size 5 _ _ HR226.out
        have e6 := frozen_of_row (v3.setCell ⟨u3.heap.size, 1, none⟩ (.int .i64 x)) u.heap.size 6 _ _ HR226.out
        have e7 := frozen_of_row (v3.setCell ⟨u3.heap.size, 1, none⟩ (.int .i64 x)) u.heap.size 7 _ _ HR226.out
        simp only [List.getElem?_toArray, List.getElem?_cons_zero, List.getElem?_cons_succ] at n0 n1 n2 n3 n4 n5 n6 n7 r0 r1 r2 r3 r4 r5 r6 r7
        go_wp2
        exact bodyPost_ret (v := .agg #[.int .i64 a0, .int .i64 x, .int .i64 b1, .int .i64 0, .int .i64 b0, .int .i64 b2, .int .i64 b3, .bool a7]) (by simp [results, Try.results54, go_sem, r0, r1, r2, r3, r4, r5, r6, r7]) rfl
          ⟨⟨a0, x, b1, 0, b0, b2, b3, a7⟩, rfl, ((((((((hD230.set (p := ⟨u.heap.size, 0, none⟩) neR wR _).set (p := ⟨u.heap.size, 1, none⟩) neR wR _).set (p := ⟨u.heap.size, 2, none⟩) neR wR _).set (p := ⟨u.heap.size, 3, none⟩) neR wR _).set (p := ⟨u.heap.size, 4, none⟩) neR wR _).set (p := ⟨u.heap.size, 5, none⟩) neR wR _).set (p := ⟨u.heap.size, 6, none⟩) neR wR _).set (p := ⟨u.heap.size, 7, none⟩) neR wR _), (grownBy_new (grownBy_new (grownBy_new (grownBy_new (grownBy_new (grownBy_new (grownBy_new (grownBy_new gg227 (p := ⟨u.heap.size, 0, none⟩) (Nat.le_refl _) _) (p := ⟨u.heap.size, 1, none⟩) (Nat.le_refl _) _) (p := ⟨u.heap.size, 2, none⟩) (Nat.le_refl _) _) (p := ⟨u.heap.size, 3, none⟩) (Nat.le_refl _) _) (p := ⟨u.heap.size, 4, none⟩) (Nat.le_refl _) _) (p := ⟨u.heap.size, 5, none⟩) (Nat.le_refl _) _) (p := ⟨u.heap.size, 6, none⟩) (Nat.le_refl _) _) (p := ⟨u.heap.size, 7, none⟩) (Nat.le_refl _) _)⟩
      · skip
        go_wp2_with fail
        refine (n_next (hD2.alloc _) 2 (by omega)).mono ?_
        rintro e v3 ⟨j, rfl, j0, jm, hD3, gC⟩
        obtain ⟨x, hx, hm⟩ := pick_cell [-1, 128] hS2 gC j.toNat (by simp; omega)
        have hj : j < 2 := by omega
        clear hm jm
        have gD := grownBy_trans (World.grownBy_alloc _ _ _) gC
        have HG231 := Lib.hid ((gD.block u3.heap.size zG207 (fun e => neG (Option.some.inj e))).trans HG204.out)
        have HR232 := Lib.hid ((gD.block u.heap.size zR208 (fun e => neR (Option.some.inj e))).trans HR205.out)
        have gg233 := grownBy_trans gg206 gD
        have zG234 : u3.heap.size < v3.heap.size := Nat.lt_of_lt_of_le zG207 gD.size
        have zR235 : u.heap.size < v3.heap.size := Nat.lt_of_lt_of_le zR208 gD.size
        have HG236 := Lib.hid (show (v3.setCell ⟨u3.heap.size, 4, none⟩ (.int .i64 x)).heap[u3.heap.size]? = some (.cells #[.int .i64 a0, .int .i64 a1, .int .i64 b1, .int .i64 0, .int .i64 x, .int .i64 b2, .int .i64 b3, .bool a7] 24 (0, 0)) from (heap_setCell_same v3 u3.heap.size 4 _ _ (.int .i64 x) HG231.out))
        have HR237 := Lib.hid ((heap_setCell_other v3 ⟨u3.heap.size, 4, none⟩ u.heap.size (.int .i64 x) neGR).trans HR232.out)
        have gg238 := grownBy_new gg233 (p := ⟨u3.heap.size, 4, none⟩) uG (.int .i64 x)
        have zG239 : u3.heap.size < (v3.setCell ⟨u3.heap.size, 4, none⟩ (.int .i64 x)).heap.size := by simpa using zG234
        have zR240 : u.heap.size < (v3.setCell ⟨u3.heap.size, 4, none⟩ (.int .i64 x)).heap.size := by simpa using zR235
        have hD241 := hD3.set (p := ⟨u3.heap.size, 4, none⟩) neG wG (.int .i64 x)
        have c4 := cell_of_row v3 u3.heap.size 4 _ _ (0, 0) HG231.out
        have f4 := frozen_of_row v3 u3.heap.size 4 _ _ HG231.out
        simp at c4
        have n0 := cell_of_row (v3.setCell ⟨u3.heap.size, 4, none⟩ (.int .i64 x)) u3.heap.size 0 _ _ (0, 0) HG236.out
        have n1 := cell_of_row (v3.setCell ⟨u3.heap.size, 4, none⟩ (.int .i64 x)) u3.heap.size 1 _ _ (0, 0) HG236.out
        have n2 := cell_of_row (v3.setCell ⟨u3.heap.size, 4, none⟩ (.int .i64 x)) u3.heap.size 2 _ _ (0, 0) HG236.out
        have n3 := cell_of_row (v3.setCell ⟨u3.heap.size, 4, none⟩ (.int .i64 x)) u3.heap.size 3 _ _ (0, 0) HG236.out
        have n4 := cell_of_row (v3.setCell ⟨u3.heap.size, 4, none⟩ (.int .i64 x)) u3.heap.size 4 _ _ (0, 0) HG236.out
        have n5 := cell_of_row (v3.setCell ⟨u3.heap.size, 4, none⟩ (.int .i64 x)) u3.heap.size 5 _ _ (0, 0) HG236.out
        have n6 := cell_of_row (v3.setCell ⟨u3.heap.size, 4, none⟩ (.int .i64 x)) u3.heap.size 6 _ _ (0, 0) HG236.out
        have n7 := cell_of_row (v3.setCell ⟨u3.heap.size, 4, none⟩ (.int .i64 x)) u3.heap.size 7 _ _ (0, 0) HG236.out
        have r0 := cell_of_row (v3.setCell ⟨u3.heap.size, 4, none⟩ (.int .i64 x)) u.heap.size 0 _ _ (0, 0) HR237.out
        have r1 := cell_of_row (v3.setCell ⟨u3.heap.size, 4, none⟩ (.int .i64 x)) u.heap.size 1 _ _ (0, 0) HR237.out
        have r2 := cell_of_row (v3.setCell ⟨u3.heap.size, 4, none⟩ (.int .i64 x)) u.heap.size 2 _ _ (0, 0) HR237.out
        have r3 := cell_of_row (v3.setCell ⟨u3.heap.size, 4, none⟩ (.int .i64 x)) u.heap.size 3 _ _ (0, 0) HR237.out
        have r4 := cell_of_row (v3.setCell ⟨u3.heap.size, 4, none⟩ (.int .i64 x)) u.heap.size 4 _ _ (0, 0) HR237.out
        have r5 := cell_of_row (v3.setCell ⟨u3.heap.size, 4, none⟩ (.int .i64 x)) u.heap.size 5 _ _ (0, 0) HR237.out
        have r6 := cell_of_row (v3.setCell ⟨u3.heap.size, 4, none⟩ (.int .i64 x)) u.heap.size 6 _ _ (0, 0) HR237.out
        have r7 := cell_of_row (v3.setCell ⟨u3.heap.size, 4, none⟩ (.int .i64 x)) u.heap.size 7 _ _ (0, 0) HR237.out
        have e0 := frozen_of_row (v3.setCell ⟨u3.heap.size, 4, none⟩ (.int .i64 x)) u.heap.size 0 _ _ HR237.out
        have e1 := frozen_of_row (v3.setCell ⟨u3.heap.size, 4, none⟩ (.int .i64 x)) u.heap.size 1 _ _ HR237.out
        have e2 := frozen_of_row (v3.setCell ⟨u3.heap.size, 4, none⟩ (.int .i64 x)) u.heap.size 2 _ _ HR237.out
        have e3 := frozen_of_row (v3.setCell ⟨u3.heap.size, 4, none⟩ (.int .i64 x)) u.heap.size 3 _ _ HR237.out
        have e4 := frozen_of_row (v3.setCell ⟨u3.heap.size, 4, none⟩ (.int .i64 x)) u.heap.size 4 _ _ HR237.out
        have e5 := frozen_of_row (v3.setCell ⟨u3.heap.size, 4, none⟩ (.int .i64 x)) u.heap.size 5 _ _ HR237.out
        have e6 := frozen_of_row (v3.setCell ⟨u3.heap.size, 4, none⟩ (.int .i64 x)) u.heap.size 6 _ _ HR237.out
        have e7 := frozen_of_row (v3.setCell ⟨u3.heap.size, 4, none⟩ (.int .i64 x)) u.heap.size 7 _ _ HR237.out
        simp only [List.getElem?_toArray, List.getElem?_cons_zero, List.getElem?_cons_succ] at n0 n1 n2 n3 n4 n5 n6 n7 r0 r1 r2 r3 r4 r5 r6 r7
        go_wp2
        exact bodyPost_ret (v := .agg #[.int .i64 a0, .int .i64 a1, .int .i64 b1, .int .i64 0, .int .i64 x, .int .i64 b2, .int .i64 b3, .bool a7]) (by simp [results, Try.results54, go_sem, r0, r1, r2, r3, r4, r5, r6, r7]) rfl
          ⟨⟨a0, a1, b1, 0, x, b2, b3, a7⟩, rfl, ((((((((hD241.set (p := ⟨u.heap.size, 0, none⟩) neR wR _).set (p := ⟨u.heap.size, 1, none⟩) neR wR _).set (p := ⟨u.heap.size, 2, none⟩) neR wR _).set (p := ⟨u.heap.size, 3, none⟩) neR wR _).set (p := ⟨u.heap.size, 4, none⟩) neR wR _).set (p := ⟨u.heap.size, 5, none⟩) neR wR _).set (p := ⟨u.heap.size, 6, none⟩) neR wR _).set (p := ⟨u.heap.size, 7, none⟩) neR wR _), (grownBy_new (grownBy_new (grownBy_new (grownBy_new (grownBy_new (grownBy_new (grownBy_new (grownBy_new gg238 (p := ⟨u.heap.size, 0, none⟩) (Nat.le_refl _) _) (p := ⟨u.heap.size, 1, none⟩) (Nat.le_refl _) _) (p := ⟨u.heap.size, 2, none⟩) (Nat.le_refl _) _) (p := ⟨u.heap.size, 3, none⟩) (Nat.le_refl _) _) (p := ⟨u.heap.size, 4, none⟩) (Nat.le_refl _) _) (p := ⟨u.heap.size, 5, none⟩) (Nat.le_refl _) _) (p := ⟨u.heap.size, 6, none⟩) (Nat.le_refl _) _) (p := ⟨u.heap.size, 7, none⟩) (Nat.le_refl _) _)⟩
      · skip
        have HG242 := Lib.hid (show (v2.setCell ⟨u3.heap.size, 6, none⟩ (.int .i64 8)).heap[u3.heap.size]? = some (.cells #[.int .i64 a0, .int .i64 a1, .int .i64 b1, .int .i64 0, .int .i64 b0, .int .i64 b2, .int .i64 8, .bool a7] 24 (0, 0)) from (heap_setCell_same v2 u3.heap.size 6 _ _ (.int .i64 8) HG204.out))
        have HR243 := Lib.hid ((heap_setCell_other v2 ⟨u3.heap.size, 6, none⟩ u.heap.size (.int .i64 8) neGR).trans HR205.out)
        have gg244 := grownBy_new gg206 (p := ⟨u3.heap.size, 6, none⟩) uG (.int .i64 8)
        have zG245 : u3.heap.size < (v2.setCell ⟨u3.heap.size, 6, none⟩ (.int .i64 8)).heap.size := by simpa using zG207
        have zR246 : u.heap.size < (v2.setCell ⟨u3.heap.size, 6, none⟩ (.int .i64 8)).heap.size := by simpa using zR208
        have hD247 := hD2.set (p := ⟨u3.heap.size, 6, none⟩) neG wG (.int .i64 8)
        have c6 := cell_of_row v2 u3.heap.size 6 _ _ (0, 0) HG204.out
        have f6 := frozen_of_row v2 u3.heap.size 6 _ _ HG204.out
        simp at c6
        have n0 := cell_of_row (v2.setCell ⟨u3.heap.size, 6, none⟩ (.int .i64 8)) u3.heap.size 0 _ _ (0, 0) HG242.out
        have n1 := cell_of_row (v2.setCell ⟨u3.heap.size, 6, none⟩ (.int .i64 8)) u3.heap.size 1 _ _ (0, 0) HG242.out
        have n2 := cell_of_row (v2.setCell ⟨u3.heap.size, 6, none⟩ (.int .i64 8)) u3.heap.size 2 _ _ (0, 0) HG242.out
        have n3 := cell_of_row (v2.setCell ⟨u3.heap.size, 6, none⟩ (.int .i64 8)) u3.heap.size 3 _ _ (0, 0) HG242.out
        have n4 := cell_of_row (v2.setCell ⟨u3.heap.size, 6, none⟩ (.int .i64 8)) u3.heap.size 4 _ _ (0, 0) HG242.out
        have n5 := cell_of_row (v2.setCell ⟨u3.heap.size, 6, none⟩ (.int .i64 8)) u3.heap.size 5 _ _ (0, 0) HG242.out
        have n6 := cell_of_row (v2.setCell ⟨u3.heap.size, 6, none⟩ (.int .i64 8)) u3.heap.size 6 _ _ (0, 0) HG242.out
        have n7 := cell_of_row (v2.setCell ⟨u3.heap.size, 6, none⟩ (.int .i64 8)) u3.heap.size 7 _ _ (0, 0) HG242.out
        have r0 := cell_of_row (v2.setCell ⟨u3.heap.size, 6, none⟩ (.int .i64 8)) u.heap.size 0 _ _ (0, 0) HR243.out
        have r1 := cell_of_row (v2.setCell ⟨u3.heap.size, 6, none⟩ (.int .i64 8)) u.heap.size 1 _ _ (0, 0) HR243.out
        have r2 := cell_of_row (v2.setCell ⟨u3.heap.size, 6, none⟩ (.int .i64 8)) u.heap.size 2 _ _ (0, 0) HR243.out
        have r3 := cell_of_row (v2.setCell ⟨u3.heap.size, 6, none⟩ (.int .i64 8)) u.heap.size 3 _ _ (0, 0) HR243.out
        have r4 := cell_of_row (v2.setCell ⟨u3.heap.size, 6, none⟩ (.int .i64 8)) u.heap.size 4 _ _ (0, 0) HR243.out
        have r5 := cell_of_row (v2.setCell ⟨u3.heap.size, 6, none⟩ (.int .i64 8)) u.heap.size 5 _ _ (0, 0) HR243.out
        have r6 := cell_of_row (v2.setCell ⟨u3.heap.size, 6, none⟩ (.int .i64 8)) u.heap.size 6 _ _ (0, 0) HR243.out
        have r7 := cell_of_row (v2.setCell ⟨u3.heap.size, 6, none⟩ (.int .i64 8)) u.heap.size 7 _ _ (0, 0) HR243.out
        have e0 := frozen_of_row (v2.setCell ⟨u3.heap.size, 6, none⟩ (.int .i64 8)) u.heap.size 0 _ _ HR243.out
        have e1 := frozen_of_row (v2.setCell ⟨u3.heap.size, 6, none⟩ (.int .i64 8)) u.heap.size 1 _ _ HR243.out
        have e2 := frozen_of_row (v2.setCell ⟨u3.heap.size, 6, none⟩ (.int .i64 8)) u.heap.size 2 _ _ HR243.out
        have e3 := frozen_of_row (v2.setCell ⟨u3.heap.size, 6, none⟩ (.int .i64 8)) u.heap.size 3 _ _ HR243.out
        have e4 := frozen_of_row (v2.setCell ⟨u3.heap.size, 6, none⟩ (.int .i64 8)) u.heap.size 4 _ _ HR243.out
        have e5 := frozen_of_row (v2.setCell ⟨u3.heap.size, 6, none⟩ (.int .i64 8)) u.heap.size 5 _ _ HR243.out
        have e6 := frozen_of_row (v2.setCell ⟨u3.heap.size, 6, none⟩ (.int .i64 8)) u.heap.size 6 _ _ HR243.out
        have e7 := frozen_of_row (v2.setCell ⟨u3.heap.size, 6, none⟩ (.int .i64 8)) u.heap.size 7 _ _ HR243.out
        simp only [List.getElem?_toArray, List.getElem?_cons_zero, List.getElem?_cons_succ] at n0 n1 n2 n3 n4 n5 n6 n7 r0 r1 r2 r3 r4 r5 r6 r7
        go_wp2
        exact bodyPost_ret (v := .agg #[.int .i64 a0, .int .i64 a1, .int .i64 b1, .int .i64 0, .int .i64 b0, .int .i64 b2, .int .i64 8, .bool a7]) (by simp [results, Try.results54, go_sem, r0, r1, r2, r3, r4, r5, r6, r7]) rfl
          ⟨⟨a0, a1, b1, 0, b0, b2, 8, a7⟩, rfl, ((((((((hD247.set (p := ⟨u.heap.size, 0, none⟩) neR wR _).set (p := ⟨u.heap.size, 1, none⟩) neR wR _).set (p := ⟨u.heap.size, 2, none⟩) neR wR _).set (p := ⟨u.heap.size, 3, none⟩) neR wR _).set (p := ⟨u.heap.size, 4, none⟩) neR wR _).set (p := ⟨u.heap.size, 5, none⟩) neR wR _).set (p := ⟨u.heap.size, 6, none⟩) neR wR _).set (p := ⟨u.heap.size, 7, none⟩) neR wR _), (grownBy_new (grownBy_new (grownBy_new (grownBy_new (grownBy_new (grownBy_new (grownBy_new (grownBy_new gg244 (p := ⟨u.heap.size, 0, none⟩) (Nat.le_refl _) _) (p := ⟨u.heap.size, 1, none⟩) (Nat.le_refl _) _) (p := ⟨u.heap.size, 2, none⟩) (Nat.le_refl _) _) (p := ⟨u.heap.size, 3, none⟩) (Nat.le_refl _) _) (p := ⟨u.heap.size, 4, none⟩) (Nat.le_refl _) _) (p := ⟨u.heap.size, 5, none⟩) (Nat.le_refl _) _) (p := ⟨u.heap.size, 6, none⟩) (Nat.le_refl _) _) (p := ⟨u.heap.size, 7, none⟩) (Nat.le_refl _) _)⟩
end
end Go.Proofs.Ytdhmcepnmbchkaa
