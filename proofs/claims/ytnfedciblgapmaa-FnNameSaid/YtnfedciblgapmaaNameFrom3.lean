/- The Name whose bytes a text is: the program's. For every text; nothing that was there is written. -/
import Derived.Test.YtnfedciblgapmaaNameFrom2
namespace Go.Proofs.Ytnfedciblgapmaa
open Go.RowKit
set_option linter.unusedVariables false

set_option maxRecDepth 100000 in
set_option maxHeartbeats 4000000 in
theorem implNameFrom_mid (t : ByteArray) (w : World) (hs : t.size = 8) :
    Calls Try.prog 11 #[.string t] w fun e w' => e = .returned (if fromB t = true then nmOutV (readNm t) 0 else nmOutV nm0 3) ∧ Below w.heap.size w w' := by
  have hM : t.size ≤ maxLen := by unfold maxLen; omega
  have hd : decide (8000 < (t.size : Int)) = false := by simp; omega
  have hd2 : ((t.size : Int) == 8) = true := by simp; omega
  have hd3 : ((t.size : Int) != 8) = false := by simp; omega
  have HT := fun W => Lib.hid (tooLong_any t W hM)
  rw [hd] at HT
  have HB := fun W => Lib.hid (implNameBytes_any (readNm t) W)
  have hq : fromB t = (nmBytes (readNm t) == t.toList) := rfl
  have HRD := Lib.hid (show readNm t = ⟨lo4 t % 2097152, lo4 t / 2097152, byteAt t 4, byteAt t 5, byteAt t 6 / 2, byteAt t 7 % 16, byteAt t 7 / 16 % 8, decide (128 ≤ byteAt t 7)⟩ from rfl)
  obtain ⟨l, hl⟩ : ∃ l, nmBytes (readNm t) = l := ⟨_, rfl⟩
  rw [hl] at HB hq
  rw [HRD.out] at HB ⊢
  clear hl
  obtain ⟨y0, y1, y2, y3, y4, y5, y6, y7, hte0⟩ := eight (show t.data.toList.length = 8 from by simpa using hs)
  have hte : t = ⟨[y0, y1, y2, y3, y4, y5, y6, y7].toArray⟩ := by
    apply ByteArray.ext
    apply Array.toList_inj.1
    simpa using hte0
  have p0 : (y0.toNat : Int) = byteAt t 0 := by unfold byteAt; rw [hte0]; rfl
  have p1 : (y1.toNat : Int) = byteAt t 1 := by unfold byteAt; rw [hte0]; rfl
  have p2 : (y2.toNat : Int) = byteAt t 2 := by unfold byteAt; rw [hte0]; rfl
  have p3 : (y3.toNat : Int) = byteAt t 3 := by unfold byteAt; rw [hte0]; rfl
  have p4 : (y4.toNat : Int) = byteAt t 4 := by unfold byteAt; rw [hte0]; rfl
  have p5 : (y5.toNat : Int) = byteAt t 5 := by unfold byteAt; rw [hte0]; rfl
  have p6 : (y6.toNat : Int) = byteAt t 6 := by unfold byteAt; rw [hte0]; rfl
  have p7 : (y7.toNat : Int) = byteAt t 7 := by unfold byteAt; rw [hte0]; rfl
  have HTE := Lib.hid (congrArg Value.string hte)
  clear hte hte0
  have hk : byteAt t 0 + byteAt t 1 * 256 + byteAt t 2 * 65536 + byteAt t 3 * 16777216 = lo4 t := by unfold lo4; omega
  have l0 : 0 ≤ byteAt t 0 ∧ byteAt t 0 ≤ 255 := ⟨byteAt_lo t 0, byteAt_hi t 0⟩
  have l1 : 0 ≤ byteAt t 1 ∧ byteAt t 1 ≤ 255 := ⟨byteAt_lo t 1, byteAt_hi t 1⟩
  have l2 : 0 ≤ byteAt t 2 ∧ byteAt t 2 ≤ 255 := ⟨byteAt_lo t 2, byteAt_hi t 2⟩
  have l3 : 0 ≤ byteAt t 3 ∧ byteAt t 3 ≤ 255 := ⟨byteAt_lo t 3, byteAt_hi t 3⟩
  have l4 : 0 ≤ byteAt t 4 ∧ byteAt t 4 ≤ 255 := ⟨byteAt_lo t 4, byteAt_hi t 4⟩
  have l5 : 0 ≤ byteAt t 5 ∧ byteAt t 5 ≤ 255 := ⟨byteAt_lo t 5, byteAt_hi t 5⟩
  have l6 : 0 ≤ byteAt t 6 ∧ byteAt t 6 ≤ 255 := ⟨byteAt_lo t 6, byteAt_hi t 6⟩
  have l7 : 0 ≤ byteAt t 7 ∧ byteAt t 7 ≤ 255 := ⟨byteAt_lo t 7, byteAt_hi t 7⟩
  clear HRD hM
  generalize lo4 t = k at *
  generalize byteAt t 0 = x0 at *
  generalize byteAt t 1 = x1 at *
  generalize byteAt t 2 = x2 at *
  generalize byteAt t 3 = x3 at *
  generalize byteAt t 4 = x4 at *
  generalize byteAt t 5 = x5 at *
  generalize byteAt t 6 = x6 at *
  generalize byteAt t 7 = x7 at *
  have HRN := fun (g cap : Nat) (W : World) (hc : 8 ≤ cap) (hg : g < W.heap.size) (hin : BytesIn W g [y0, y1, y2, y3, y4, y5, y6, y7]) => Lib.hid (readName_any g cap x0 x1 x2 x3 x4 x5 x6 x7 k W hc hg (p0 ▸ (hin 0 (by simp)).1) (p1 ▸ (hin 1 (by simp)).1) (p2 ▸ (hin 2 (by simp)).1) (p3 ▸ (hin 3 (by simp)).1) (p4 ▸ (hin 4 (by simp)).1) (p5 ▸ (hin 5 (by simp)).1) (p6 ▸ (hin 6 (by simp)).1) (p7 ▸ (hin 7 (by simp)).1) l0 l1 l2 l3 l4 l5 l6 l7 hk)
  clear l0 l1 l2 l3 l4 l5 l6 l7 hk p0 p1 p2 p3 p4 p5 p6 p7
  unfold nmV at HB
  generalize fromB t = q at *
  go_enter Try.func11, Try.ntmps11
  go_wp2_with (first
    | (go_at_call 29; refine (HT _).out.mono ?_; rintro e w' ⟨rfl, rfl⟩)
    | (refine wpList_bytes rfl (.tmp 11) 9 22 5 rfl Try.underlying9 Try.underlying22 Try.underlying5 [y0, y1, y2, y3, y4, y5, y6, y7] HTE.out (fun cap w1 hin h1 z1 hcap => ?_); have HI := Lib.hid (show BytesIn w1 (w.heap.size + 1) [y0, y1, y2, y3, y4, y5, y6, y7] from (by simpa using hin)); have z1' : w.heap.size + 1 < w1.heap.size := (by simpa using z1); have b1 : Below (w.heap.size + 1) (w.alloc (.cells #[.int .i64 0, .int .i64 0, .int .i64 0, .int .i64 0, .int .i64 0, .int .i64 0, .int .i64 0, .bool false, .int .i64 0] 29)) w1 := (h1.mono (by simp)); have hc8 : 8 ≤ cap := hcap; clear hin z1 hcap h1)
    | (go_at_call 30; refine (HRN (w.heap.size + 1) cap w1 hc8 z1' HI.out).out.mono ?_; rintro e w2 ⟨rfl, h2⟩; have z2 : w.heap.size + 1 < w2.heap.size := Nat.lt_of_lt_of_le z1' h2.size))
  refine (HB _).out.mono ?_
  rintro e w3 ⟨rfl, h3⟩
  have b2 : Below (w.heap.size + 1) (w.alloc (.cells #[.int .i64 0, .int .i64 0, .int .i64 0, .int .i64 0, .int .i64 0, .int .i64 0, .int .i64 0, .bool false, .int .i64 0] 29)) w2 := b1.trans (h2.mono (Nat.le_of_lt z1'))
  have B1 : Below (w.heap.size + 1) (w.alloc (.cells #[.int .i64 0, .int .i64 0, .int .i64 0, .int .i64 0, .int .i64 0, .int .i64 0, .int .i64 0, .bool false, .int .i64 0] 29)) w3 := (b2.alloc (Nat.le_of_lt z2) _).trans (h3.mono (by simp; omega))
  have bw : Below w.heap.size w w3 := ((Below.refl _ _).alloc (Nat.le_refl _) _).trans (B1.mono (by omega))
  have hN : w3.heap[w2.heap.size]? = some (.cells #[.int .i64 (k % 2097152), .int .i64 (k / 2097152), .int .i64 x4, .int .i64 x5, .int .i64 (x6 / 2), .int .i64 (x7 % 16), .int .i64 (x7 / 16 % 8), .bool (decide (128 ≤ x7))] 24 (0, 0)) := (h3.block _ (by simp)).trans (heap_alloc_new w2 _)
  have hM : w3.heap[w.heap.size]? = some (.cells #[.int .i64 0, .int .i64 0, .int .i64 0, .int .i64 0, .int .i64 0, .int .i64 0, .int .i64 0, .bool false, .int .i64 0] 29 (0, 0)) := (B1.block _ (by omega)).trans (heap_alloc_new w _)
  have n0 := cell_of_row w3 w2.heap.size 0 _ _ (0, 0) hN
  have n1 := cell_of_row w3 w2.heap.size 1 _ _ (0, 0) hN
  have n2 := cell_of_row w3 w2.heap.size 2 _ _ (0, 0) hN
  have n3 := cell_of_row w3 w2.heap.size 3 _ _ (0, 0) hN
  have n4 := cell_of_row w3 w2.heap.size 4 _ _ (0, 0) hN
  have n5 := cell_of_row w3 w2.heap.size 5 _ _ (0, 0) hN
  have n6 := cell_of_row w3 w2.heap.size 6 _ _ (0, 0) hN
  have n7 := cell_of_row w3 w2.heap.size 7 _ _ (0, 0) hN
  have r0 := cell_of_row w3 w.heap.size 0 _ _ (0, 0) hM
  have r1 := cell_of_row w3 w.heap.size 1 _ _ (0, 0) hM
  have r2 := cell_of_row w3 w.heap.size 2 _ _ (0, 0) hM
  have r3 := cell_of_row w3 w.heap.size 3 _ _ (0, 0) hM
  have r4 := cell_of_row w3 w.heap.size 4 _ _ (0, 0) hM
  have r5 := cell_of_row w3 w.heap.size 5 _ _ (0, 0) hM
  have r6 := cell_of_row w3 w.heap.size 6 _ _ (0, 0) hM
  have r7 := cell_of_row w3 w.heap.size 7 _ _ (0, 0) hM
  have r8 := cell_of_row w3 w.heap.size 8 _ _ (0, 0) hM
  have g0 := frozen_of_row w3 w.heap.size 0 _ _ hM
  have g1 := frozen_of_row w3 w.heap.size 1 _ _ hM
  have g2 := frozen_of_row w3 w.heap.size 2 _ _ hM
  have g3 := frozen_of_row w3 w.heap.size 3 _ _ hM
  have g4 := frozen_of_row w3 w.heap.size 4 _ _ hM
  have g5 := frozen_of_row w3 w.heap.size 5 _ _ hM
  have g6 := frozen_of_row w3 w.heap.size 6 _ _ hM
  have g7 := frozen_of_row w3 w.heap.size 7 _ _ hM
  have g8 := frozen_of_row w3 w.heap.size 8 _ _ hM
  simp at n0 n1 n2 n3 n4 n5 n6 n7 r0 r1 r2 r3 r4 r5 r6 r7 r8
  have zz : w.heap.size ≠ w2.heap.size := by omega
  clear B1 b1 b2 h2 h3 hN hM HI HB HT HRN
  cases q
  · have hq' : (l == t.toList) = false := hq.symm
    clear hq
    go_wp2
    exact bodyPost_ret (v := nmOutV nm0 3) (by simp [results, Try.results11, go_sem, r0, r1, r2, r3, r4, r5, r6, r7, r8, nmOutV, nm0]) rfl
      ⟨rfl, (((((((((bw).setCell (p := ⟨w.heap.size, 0, none⟩) (Nat.le_refl _) _).setCell (p := ⟨w.heap.size, 1, none⟩) (Nat.le_refl _) _).setCell (p := ⟨w.heap.size, 2, none⟩) (Nat.le_refl _) _).setCell (p := ⟨w.heap.size, 3, none⟩) (Nat.le_refl _) _).setCell (p := ⟨w.heap.size, 4, none⟩) (Nat.le_refl _) _).setCell (p := ⟨w.heap.size, 5, none⟩) (Nat.le_refl _) _).setCell (p := ⟨w.heap.size, 6, none⟩) (Nat.le_refl _) _).setCell (p := ⟨w.heap.size, 7, none⟩) (Nat.le_refl _) _).setCell (p := ⟨w.heap.size, 8, none⟩) (Nat.le_refl _) _⟩
  · have hq' : (l == t.toList) = true := hq.symm
    clear hq
    go_wp2
    exact bodyPost_ret (v := nmOutV ⟨k % 2097152, k / 2097152, x4, x5, x6 / 2, x7 % 16, x7 / 16 % 8, decide (128 ≤ x7)⟩ 0) (by simp [results, Try.results11, go_sem, r0, r1, r2, r3, r4, r5, r6, r7, r8, nmOutV]) rfl
      ⟨rfl, (((((((((bw).setCell (p := ⟨w.heap.size, 0, none⟩) (Nat.le_refl _) _).setCell (p := ⟨w.heap.size, 1, none⟩) (Nat.le_refl _) _).setCell (p := ⟨w.heap.size, 2, none⟩) (Nat.le_refl _) _).setCell (p := ⟨w.heap.size, 3, none⟩) (Nat.le_refl _) _).setCell (p := ⟨w.heap.size, 4, none⟩) (Nat.le_refl _) _).setCell (p := ⟨w.heap.size, 5, none⟩) (Nat.le_refl _) _).setCell (p := ⟨w.heap.size, 6, none⟩) (Nat.le_refl _) _).setCell (p := ⟨w.heap.size, 7, none⟩) (Nat.le_refl _) _).setCell (p := ⟨w.heap.size, 8, none⟩) (Nat.le_refl _) _⟩

set_option maxHeartbeats 1000000 in
theorem implNameFrom_any (t : ByteArray) (w : World) (hs : t.size ≤ maxLen) :
    Calls Try.prog 11 #[.string t] w fun e w' => e = .returned (nameFromV t) ∧ Below w.heap.size w w' := by
  by_cases ha : 8000 < t.size
  · rw [show nameFromV t = nmOutV nm0 2 from if_pos ha]
    have hd : decide (8000 < (t.size : Int)) = true := by simp; omega
    go_enter Try.func11, Try.ntmps11
    go_wp2_with (go_at_call 29; refine (tooLong_any _ _ hs).mono ?_; rintro e w' ⟨rfl, rfl⟩)
    exact bodyPost_ret (v := nmOutV nm0 2) (by simp [results, Try.results11, go_sem, nmOutV, nm0]) rfl ⟨rfl, (Below.refl _ _).alloc (Nat.le_refl _) _⟩
  have hd : decide (8000 < (t.size : Int)) = false := by simp; omega
  by_cases hb : t.size = 8
  · have H := implNameFrom_mid t w hb
    rwa [show (if fromB t = true then nmOutV (readNm t) 0 else nmOutV nm0 3) = nameFromV t by simp [nameFromV, hb]] at H
  · rw [show nameFromV t = nmOutV nm0 3 by simp [nameFromV, ha, hb]]
    have hd2 : ((t.size : Int) == 8) = false := by simp; omega
    have hd3 : ((t.size : Int) != 8) = true := by simp; omega
    go_enter Try.func11, Try.ntmps11
    go_wp2_with (go_at_call 29; refine (tooLong_any _ _ hs).mono ?_; rintro e w' ⟨rfl, rfl⟩)
    exact bodyPost_ret (v := nmOutV nm0 3) (by simp [results, Try.results11, go_sem, nmOutV, nm0]) rfl ⟨rfl, (Below.refl _ _).alloc (Nat.le_refl _) _⟩
end Go.Proofs.Ytnfedciblgapmaa
