/- A new Claim, and a tick of one: the model's. Nothing that was there is written. -/
import Derived.Test.YtpolpkheaibonaaClaimRight
namespace Go.Proofs.Ytpolpkheaibonaa
open Go.RowKit
set_option linter.unusedVariables false

/-- A Claim, whether it is to be sent, and a code, as a value. -/
def clOutV (n : Nm) (ad st lf : Int) (v : Value) (s : Bool) (c : Int) : Value := .agg #[.int .i64 n.u, .int .i64 n.m, .int .i64 n.i, .int .i64 n.f, .int .i64 n.c, .int .i64 n.s, .int .i64 n.y, .bool n.a, .int .i64 ad, .int .i64 st, .int .i64 lf, v, .bool s, .int .i64 c]
/-- What ClaimNew answers. -/
def clNewV (n : Nm) (want : Int) : Value := if (okB n && inB 0 251 want) = true then clOutV n want 1 250 (.slice none 0 0) true 0 else clOutV ⟨0, 0, 0, 0, 0, 0, 0, false⟩ 0 0 0 (.slice none 0 0) false 1

set_option maxHeartbeats 2000000 in
theorem specClaimNew_any (n : Nm) (want : Int) (w : World) :
    Calls Try.prog 82 #[nmV n, .int .i64 want] w fun e w' => e = .returned (clNewV n want) ∧ Below w.heap.size w w' := by
  have HN := fun W => Lib.hid (specNameOk_any n W)
  have HA := fun W => Lib.hid (l05Addr_any want W)
  obtain ⟨V, hV⟩ : ∃ V, clNewV n want = V := ⟨_, rfl⟩
  have HV := Lib.hid (show (if (okB n && inB 0 251 want) = true then clOutV n want 1 250 (.slice none 0 0) true 0 else clOutV ⟨0, 0, 0, 0, 0, 0, 0, false⟩ 0 0 0 (.slice none 0 0) false 1) = V from hV)
  rw [hV]
  clear hV
  generalize okB n = vn at *
  generalize inB 0 251 want = va at *
  obtain ⟨n0, n1, n2, n3, n4, n5, n6, n7⟩ := n
  unfold clOutV at HV
  unfold nmV at *
  dsimp only at *
  have hb0 : Below w.heap.size w ((w.alloc (.cells #[.int .i64 n0, .int .i64 n1, .int .i64 n2, .int .i64 n3, .int .i64 n4, .int .i64 n5, .int .i64 n6, .bool n7] 33)).alloc (.cells #[.int .i64 0, .int .i64 0, .int .i64 0, .int .i64 0, .int .i64 0, .int .i64 0, .int .i64 0, .bool false, .int .i64 0, .int .i64 0, .int .i64 0, .slice none 0 0, .bool false, .int .i64 0] 129)) := ((Below.refl _ _).alloc (Nat.le_refl _) _).alloc (by simp) _
  have hX : ((w.alloc (.cells #[.int .i64 n0, .int .i64 n1, .int .i64 n2, .int .i64 n3, .int .i64 n4, .int .i64 n5, .int .i64 n6, .bool n7] 33)).alloc (.cells #[.int .i64 0, .int .i64 0, .int .i64 0, .int .i64 0, .int .i64 0, .int .i64 0, .int .i64 0, .bool false, .int .i64 0, .int .i64 0, .int .i64 0, .slice none 0 0, .bool false, .int .i64 0] 129)).heap[w.heap.size + 1]? = some (.cells #[.int .i64 0, .int .i64 0, .int .i64 0, .int .i64 0, .int .i64 0, .int .i64 0, .int .i64 0, .bool false, .int .i64 0, .int .i64 0, .int .i64 0, .slice none 0 0, .bool false, .int .i64 0] 129 (0, 0)) := heap_next w _ _
  have hN : ((w.alloc (.cells #[.int .i64 n0, .int .i64 n1, .int .i64 n2, .int .i64 n3, .int .i64 n4, .int .i64 n5, .int .i64 n6, .bool n7] 33)).alloc (.cells #[.int .i64 0, .int .i64 0, .int .i64 0, .int .i64 0, .int .i64 0, .int .i64 0, .int .i64 0, .bool false, .int .i64 0, .int .i64 0, .int .i64 0, .slice none 0 0, .bool false, .int .i64 0] 129)).heap[w.heap.size]? = some (.cells #[.int .i64 n0, .int .i64 n1, .int .i64 n2, .int .i64 n3, .int .i64 n4, .int .i64 n5, .int .i64 n6, .bool n7] 33 (0, 0)) := (Below.heap_alloc (w.alloc (.cells #[.int .i64 n0, .int .i64 n1, .int .i64 n2, .int .i64 n3, .int .i64 n4, .int .i64 n5, .int .i64 n6, .bool n7] 33)) _ w.heap.size (by simp)).trans (heap_alloc_new w _)
  go_enter Try.func82, Try.ntmps82
  go_wp2_with fail
  refine (HN _).out.mono ?_
  rintro e w1 ⟨rfl, h1⟩
  have hU := (h1.block (w.heap.size + 1) (by simp)).trans hX
  have hM := (h1.block w.heap.size (by simp; omega)).trans hN
  have r0 := cell_of_row w1 (w.heap.size + 1) 0 _ _ (0, 0) hU
  have r1 := cell_of_row w1 (w.heap.size + 1) 1 _ _ (0, 0) hU
  have r2 := cell_of_row w1 (w.heap.size + 1) 2 _ _ (0, 0) hU
  have r3 := cell_of_row w1 (w.heap.size + 1) 3 _ _ (0, 0) hU
  have r4 := cell_of_row w1 (w.heap.size + 1) 4 _ _ (0, 0) hU
  have r5 := cell_of_row w1 (w.heap.size + 1) 5 _ _ (0, 0) hU
  have r6 := cell_of_row w1 (w.heap.size + 1) 6 _ _ (0, 0) hU
  have r7 := cell_of_row w1 (w.heap.size + 1) 7 _ _ (0, 0) hU
  have r8 := cell_of_row w1 (w.heap.size + 1) 8 _ _ (0, 0) hU
  have r9 := cell_of_row w1 (w.heap.size + 1) 9 _ _ (0, 0) hU
  have r10 := cell_of_row w1 (w.heap.size + 1) 10 _ _ (0, 0) hU
  have r11 := cell_of_row w1 (w.heap.size + 1) 11 _ _ (0, 0) hU
  have r12 := cell_of_row w1 (w.heap.size + 1) 12 _ _ (0, 0) hU
  have r13 := cell_of_row w1 (w.heap.size + 1) 13 _ _ (0, 0) hU
  have e0 := frozen_of_row w1 (w.heap.size + 1) 0 _ _ hU
  have e1 := frozen_of_row w1 (w.heap.size + 1) 1 _ _ hU
  have e2 := frozen_of_row w1 (w.heap.size + 1) 2 _ _ hU
  have e3 := frozen_of_row w1 (w.heap.size + 1) 3 _ _ hU
  have e4 := frozen_of_row w1 (w.heap.size + 1) 4 _ _ hU
  have e5 := frozen_of_row w1 (w.heap.size + 1) 5 _ _ hU
  have e6 := frozen_of_row w1 (w.heap.size + 1) 6 _ _ hU
  have e7 := frozen_of_row w1 (w.heap.size + 1) 7 _ _ hU
  have e8 := frozen_of_row w1 (w.heap.size + 1) 8 _ _ hU
  have e9 := frozen_of_row w1 (w.heap.size + 1) 9 _ _ hU
  have e10 := frozen_of_row w1 (w.heap.size + 1) 10 _ _ hU
  have e11 := frozen_of_row w1 (w.heap.size + 1) 11 _ _ hU
  have e12 := frozen_of_row w1 (w.heap.size + 1) 12 _ _ hU
  have e13 := frozen_of_row w1 (w.heap.size + 1) 13 _ _ hU
  simp only [List.getElem?_toArray, List.getElem?_cons_zero, List.getElem?_cons_succ] at r0 r1 r2 r3 r4 r5 r6 r7 r8 r9 r10 r11 r12 r13
  have m0 := cell_of_row w1 w.heap.size 0 _ _ (0, 0) hM
  have m1 := cell_of_row w1 w.heap.size 1 _ _ (0, 0) hM
  have m2 := cell_of_row w1 w.heap.size 2 _ _ (0, 0) hM
  have m3 := cell_of_row w1 w.heap.size 3 _ _ (0, 0) hM
  have m4 := cell_of_row w1 w.heap.size 4 _ _ (0, 0) hM
  have m5 := cell_of_row w1 w.heap.size 5 _ _ (0, 0) hM
  have m6 := cell_of_row w1 w.heap.size 6 _ _ (0, 0) hM
  have m7 := cell_of_row w1 w.heap.size 7 _ _ (0, 0) hM
  simp only [List.getElem?_toArray, List.getElem?_cons_zero, List.getElem?_cons_succ] at m0 m1 m2 m3 m4 m5 m6 m7
  have bw : Below w.heap.size w w1 := hb0.trans (h1.mono (by simp; omega))
  clear hU hM hX hN hb0 h1 HN
  cases vn
  · go_wp2
    exact bodyPost_ret (v := clOutV ⟨0, 0, 0, 0, 0, 0, 0, false⟩ 0 0 0 (.slice none 0 0) false 1) (by simp [results, Try.results82, go_sem, r0, r1, r2, r3, r4, r5, r6, r7, r8, r9, r10, r11, r12, r13, clOutV]) rfl
      ⟨by rw [← HV.out]; rfl, ((((((((((((((bw).setCell (p := ⟨w.heap.size + 1, 0, none⟩) (by simp) _).setCell (p := ⟨w.heap.size + 1, 1, none⟩) (by simp) _).setCell (p := ⟨w.heap.size + 1, 2, none⟩) (by simp) _).setCell (p := ⟨w.heap.size + 1, 3, none⟩) (by simp) _).setCell (p := ⟨w.heap.size + 1, 4, none⟩) (by simp) _).setCell (p := ⟨w.heap.size + 1, 5, none⟩) (by simp) _).setCell (p := ⟨w.heap.size + 1, 6, none⟩) (by simp) _).setCell (p := ⟨w.heap.size + 1, 7, none⟩) (by simp) _).setCell (p := ⟨w.heap.size + 1, 8, none⟩) (by simp) _).setCell (p := ⟨w.heap.size + 1, 9, none⟩) (by simp) _).setCell (p := ⟨w.heap.size + 1, 10, none⟩) (by simp) _).setCell (p := ⟨w.heap.size + 1, 11, none⟩) (by simp) _).setCell (p := ⟨w.heap.size + 1, 12, none⟩) (by simp) _).setCell (p := ⟨w.heap.size + 1, 13, none⟩) (by simp) _⟩
  cases va
  · go_wp2_with (go_at_call 90; refine (HA _).out.mono ?_; rintro e w' ⟨rfl, rfl⟩)
    exact bodyPost_ret (v := clOutV ⟨0, 0, 0, 0, 0, 0, 0, false⟩ 0 0 0 (.slice none 0 0) false 1) (by simp [results, Try.results82, go_sem, r0, r1, r2, r3, r4, r5, r6, r7, r8, r9, r10, r11, r12, r13, clOutV]) rfl
      ⟨by rw [← HV.out]; rfl, ((((((((((((((bw).setCell (p := ⟨w.heap.size + 1, 0, none⟩) (by simp) _).setCell (p := ⟨w.heap.size + 1, 1, none⟩) (by simp) _).setCell (p := ⟨w.heap.size + 1, 2, none⟩) (by simp) _).setCell (p := ⟨w.heap.size + 1, 3, none⟩) (by simp) _).setCell (p := ⟨w.heap.size + 1, 4, none⟩) (by simp) _).setCell (p := ⟨w.heap.size + 1, 5, none⟩) (by simp) _).setCell (p := ⟨w.heap.size + 1, 6, none⟩) (by simp) _).setCell (p := ⟨w.heap.size + 1, 7, none⟩) (by simp) _).setCell (p := ⟨w.heap.size + 1, 8, none⟩) (by simp) _).setCell (p := ⟨w.heap.size + 1, 9, none⟩) (by simp) _).setCell (p := ⟨w.heap.size + 1, 10, none⟩) (by simp) _).setCell (p := ⟨w.heap.size + 1, 11, none⟩) (by simp) _).setCell (p := ⟨w.heap.size + 1, 12, none⟩) (by simp) _).setCell (p := ⟨w.heap.size + 1, 13, none⟩) (by simp) _⟩
  · go_wp2_with (go_at_call 90; refine (HA _).out.mono ?_; rintro e w' ⟨rfl, rfl⟩)
    exact bodyPost_ret (v := clOutV ⟨n0, n1, n2, n3, n4, n5, n6, n7⟩ want 1 250 (.slice none 0 0) true 0) (by simp [results, Try.results82, go_sem, r0, r1, r2, r3, r4, r5, r6, r7, r8, r9, r10, r11, r12, r13, clOutV]) rfl
      ⟨by rw [← HV.out]; rfl, ((((((((((((((bw).setCell (p := ⟨w.heap.size + 1, 0, none⟩) (by simp) _).setCell (p := ⟨w.heap.size + 1, 1, none⟩) (by simp) _).setCell (p := ⟨w.heap.size + 1, 2, none⟩) (by simp) _).setCell (p := ⟨w.heap.size + 1, 3, none⟩) (by simp) _).setCell (p := ⟨w.heap.size + 1, 4, none⟩) (by simp) _).setCell (p := ⟨w.heap.size + 1, 5, none⟩) (by simp) _).setCell (p := ⟨w.heap.size + 1, 6, none⟩) (by simp) _).setCell (p := ⟨w.heap.size + 1, 7, none⟩) (by simp) _).setCell (p := ⟨w.heap.size + 1, 8, none⟩) (by simp) _).setCell (p := ⟨w.heap.size + 1, 9, none⟩) (by simp) _).setCell (p := ⟨w.heap.size + 1, 10, none⟩) (by simp) _).setCell (p := ⟨w.heap.size + 1, 11, none⟩) (by simp) _).setCell (p := ⟨w.heap.size + 1, 12, none⟩) (by simp) _).setCell (p := ⟨w.heap.size + 1, 13, none⟩) (by simp) _⟩
end Go.Proofs.Ytpolpkheaibonaa
