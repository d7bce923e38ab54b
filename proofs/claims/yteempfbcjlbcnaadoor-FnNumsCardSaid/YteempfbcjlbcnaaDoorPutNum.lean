/- What the model's and the program's PutNum answer: the bytes of the number, seven bits a byte. For every number of 64 bits; nothing that was there is written. -/
import Derived.Test.YteempfbcjlbcnaaDoorOwn
import Derived.Test.YteempfbcjlbcnaaDoorMath
namespace Go.Proofs.YteempfbcjlbcnaaDoor
open Go.RowKit
set_option linter.unusedVariables false
theorem PutNum.info8 : (Tryd.prog.info? 5).map (fun i => (i.zero, i.size, i.bytes)) = some (some (.int .u8 0), 1, 1) := by kernel_rfl

theorem PutNum.size8 (W : World) : (sizeOf 5).run Tryd.prog W = .ok 1 W := by kernel_rfl

set_option maxHeartbeats 400000 in
theorem specFold_any (n : Int) (w : World) (h0 : -9223372036854775808 ≤ n) (h1 : n ≤ 9223372036854775807) :
    Calls Tryd.prog 15 #[.int .i64 n] w fun e w' => e = .returned (.int .u64 (foldI n)) ∧ w = w' := by
  by_cases h : n < 0
  · have e : foldI n = 2 * -(n + 1) + 1 := if_pos h
    rw [e]
    clear e
    go_enter Tryd.func15, Tryd.ntmps15
    go_wp2
    go_ret
    exact ⟨rfl, rfl⟩
  · have e : foldI n = 2 * n := if_neg h
    rw [e]
    clear e
    go_enter Tryd.func15, Tryd.ntmps15
    go_wp2
    go_ret
    exact ⟨rfl, rfl⟩

set_option maxHeartbeats 400000 in
theorem implFold_any (n : Int) (w : World) (h0 : -9223372036854775808 ≤ n) (h1 : n ≤ 9223372036854775807) :
    Calls Tryd.prog 14 #[.int .i64 n] w fun e w' => e = .returned (.int .u64 (foldI n)) ∧ w = w' := by
  by_cases h : n < 0
  · have e : foldI n = 2 * -(n + 1) + 1 := if_pos h
    rw [e]
    clear e
    go_enter Tryd.func14, Tryd.ntmps14
    go_wp2
    go_ret
    exact ⟨rfl, rfl⟩
  · have e : foldI n = 2 * n := if_neg h
    rw [e]
    clear e
    go_enter Tryd.func14, Tryd.ntmps14
    go_wp2
    go_ret
    exact ⟨rfl, rfl⟩

set_option maxRecDepth 100000 in
set_option maxHeartbeats 400000 in
theorem specPutNum_any (n : Int) (w : World) (h0 : -9223372036854775808 ≤ n) (h1 : n ≤ 9223372036854775807) :
    Calls Tryd.prog 6 #[.int .i64 n] w fun e w' => e = .returned (.string ⟨(numBytes n).toArray⟩) ∧ Below w.heap.size w w' := by
  obtain ⟨i0, hi, hz0, hz1, hz2⟩ := info_parts PutNum.info8
  have hlo := foldI_lo n
  have hhi := foldI_hi n h0 h1
  have hmade := Lib.hid (OwnsB.made w w.heap.size 5 (Nat.le_refl _))
  have hst := Lib.hid (FitsF.start n h0 h1)
  go_enter Tryd.func6, Tryd.ntmps6
  go_wp2_with (go_at_call 15; refine (specFold_any _ _ (by omega) (by omega)).mono ?_; rintro e w' ⟨rfl, rfl⟩)
  go_loopw [3, 4] (fun u v wr => ∃ (x : Int) (f : Nat) (l : List UInt8), u = .int .u64 x ∧ 0 ≤ x ∧ x < 128 ^ 9 * 2 ∧ FitsF f x ∧ l.length + f = 9 ∧ l ++ encF f x = numBytes n ∧ OwnsB wr w.heap.size 5 v l ∧ w.heap.size ≤ wr.heap.size ∧ Below w.heap.size w wr) (fun u _ _ => (intOf u).toNat)
  case atStart => exact ⟨foldI n, 9, [], rfl, hlo, hhi, hst.out, rfl, rfl, hmade.out, by simp, (Below.refl _ _).alloc (Nat.le_refl _) _⟩
  case round =>
    obtain ⟨x, f, l, rfl, hx0, hx1, hfit, hlf, henc, hown, hsz, hbel⟩ := hrel
    have HL := Lib.hid hlf
    have HE := Lib.hid henc
    have hll : l.length ≤ 9 := by omega
    clear hlf henc
    by_cases hb : 128 ≤ x
    · obtain ⟨g, hg, hfit'⟩ := FitsF.step hfit hb
      have HG := Lib.hid hg
      clear hg hfit
      go_wp2_with (at_builtin; refine wpList_append_byte rfl (.tmp 10) (.tmp 15) 22 rfl 5 i0 Tryd.underlying22 hi hz0 hz1 hz2 w.heap.size _ l rfl (hown.alloc _) (x % 128 + 128) (by omega) (by omega) ⟨wr.heap.size, 0, none⟩ rfl (cell_new1 _ _ _) (by omega) (by simp; omega) ?_; intro v' w1 hown' hgrow)
      have hb1 := (hown.alloc (.cells #[.int .u8 (x % 128 + 128)] 5)).below hgrow (hbel.alloc hsz _) (Nat.le_refl _) (by simp; omega)
      have hs1 := hgrow.size
      go_roundw
      case rel =>
        refine ⟨x / 128, g, _, rfl, by omega, by omega, hfit', ?_, ?_, hown', ?_, hb1⟩
        · have := HL.out; have := HG.out; simp; omega
        · have e := HE.out
          rw [HG.out, encF_big _ _ hb] at e
          rw [← e]
          simp [byteI]
        · simp at hs1; omega
      case measure => simp [intOf]; omega
    · have hb' : x < 128 := by omega
      clear hb
      have HF := Lib.hid (encF_small f x hb')
      go_wp2_with (at_builtin; refine wpList_append_byte rfl (.tmp 19) (.tmp 22) 22 rfl 5 i0 Tryd.underlying22 hi hz0 hz1 hz2 w.heap.size _ l rfl (hown.alloc _) x (by omega) (by omega) ⟨wr.heap.size, 0, none⟩ rfl (cell_new1 _ _ _) (by omega) (by simp; omega) ?_; intro v' w1 hown' hgrow; have hcv := hown'.conv (P := Tryd.prog) 22 9 Tryd.underlying22 Tryd.underlying5 Tryd.underlying9)
      have hb1 := (hown.alloc (.cells #[.int .u8 x] 5)).below hgrow (hbel.alloc hsz _) (Nat.le_refl _) (by simp; omega)
      go_ret
      refine ⟨?_, hb1⟩
      rw [← HE.out, HF.out]
      rfl

set_option maxRecDepth 100000 in
set_option maxHeartbeats 400000 in
theorem implPutNum_any (n : Int) (w : World) (h0 : -9223372036854775808 ≤ n) (h1 : n ≤ 9223372036854775807) :
    Calls Tryd.prog 5 #[.int .i64 n] w fun e w' => e = .returned (.string ⟨(numBytes n).toArray⟩) ∧ Below w.heap.size w w' := by
  have hlo := foldI_lo n
  have hhi := foldI_hi n h0 h1
  have hst := Lib.hid (FitsF.start n h0 h1)
  go_enter Tryd.func5, Tryd.ntmps5
  go_wp2_with (go_at_call 14; refine (implFold_any _ _ (by omega) (by omega)).mono ?_; rintro e w' ⟨rfl, rfl⟩)
  go_loopw [4, 5] (fun u v wr => ∃ (x : Int) (f k : Nat) (l : List UInt8) (cs : Array Value), u = .int .u64 x ∧ v = .int .i64 k ∧ 0 ≤ x ∧ x < 128 ^ 9 * 2 ∧ FitsF f x ∧ k = l.length ∧ k + f = 9 ∧ l ++ encF f x = numBytes n ∧ wr.heap[w.heap.size]? = some (.cells cs 37 (0, 0)) ∧ cs.size = 10 ∧ cs.toList.take k = bcells l ∧ w.heap.size < wr.heap.size ∧ Below w.heap.size w wr) (fun u _ _ => (intOf u).toNat)
  case atStart =>
    exact ⟨foldI n, 9, 0, [], _, rfl, rfl, hlo, hhi, hst.out, rfl, rfl, rfl, heap_alloc_new _ _, rfl, rfl, by simp, (Below.refl _ _).alloc (Nat.le_refl _) _⟩
  case round =>
    obtain ⟨x, f, k, l, cs, rfl, rfl, hx0, hx1, hfit, hk, hkf, henc, hrow, hcs, htk, hsz, hbel⟩ := hrel
    have HK := Lib.hid hk
    have HKF := Lib.hid hkf
    have HE := Lib.hid henc
    have hk9 : k ≤ 9 := by omega
    have HC := Lib.hid hcs
    have HR := Lib.hid hrow
    have HT := Lib.hid htk
    have hcell := cell_of_row wr w.heap.size k cs 37 (0, 0) hrow
    have hfz := frozen_of_row wr w.heap.size k cs 37 hrow
    rw [Array.getElem?_eq_getElem (by omega)] at hcell
    generalize cs[k] = c0 at hcell
    clear hk hkf henc hcs hrow htk
    by_cases hb : 128 ≤ x
    · obtain ⟨g, hg, hfit'⟩ := FitsF.step hfit hb
      have HG := Lib.hid hg
      clear hg hfit
      go_wp2
      go_roundw
      case rel =>
        have hk1 := HKF.out
        have hg1 := HG.out
        have e8 : (byteI (x % 128 + 128)).toNat = (x % 128 + 128).toNat := by simp [byteI]; omega
        have ts := take_set (k := k) (by rw [HC.out]; omega) HT.out (byteI (x % 128 + 128))
        rw [e8, show (((x % 128 + 128).toNat : Nat) : Int) = x % 128 + 128 by omega] at ts
        refine ⟨x / 128, g, k + 1, _, _, rfl, by go_num, by omega, by omega, hfit', ?_, by omega, ?_, heap_setCell_same _ _ _ _ _ _ HR.out, by simpa using HC.out, ts, by simpa using hsz, hbel.setCell (Nat.le_refl _) _⟩
        · have := HK.out; simp; omega
        · have e := HE.out
          rw [hg1, encF_big _ _ hb] at e
          rw [← e]
          simp
      case measure => simp [intOf]; omega
    · have hb' : x < 128 := by omega
      clear hb
      have HF := Lib.hid (encF_small f x hb')
      have e8 : (byteI x).toNat = x.toNat := by simp [byteI]; omega
      have ts := take_set (k := k) (by rw [HC.out]; omega) HT.out (byteI x)
      rw [e8, show ((x.toNat : Nat) : Int) = x by omega] at ts
      have hcv := conv_row (P := Tryd.prog) (heap_setCell_same _ _ k _ _ (.int .u8 x) HR.out) (k + 1) (by have := HK.out; simp; omega) ts 22 9 Tryd.underlying22 Tryd.underlying5 Tryd.underlying9
      clear e8 ts
      have hsl : ∀ W : World, (Instr.sliceAt 37 (.pointer (some ⟨w.heap.size, 0, none⟩)) none (some (.int .i64 ((k : Int) + 1))) none).run Tryd.prog W = .ok (.slice (some ⟨w.heap.size, 0, none⟩) (k + 1) 10) W := fun W => slice_array_h W 37 5 10 Tryd.underlying37 PutNum.size8 w.heap.size (k + 1) (by omega) (by omega)
      go_wp2
      go_ret
      refine ⟨?_, hbel.setCell (Nat.le_refl _) _⟩
      rw [← HE.out, HF.out]
      rfl

/-- The same, the bytes under a name of their own. -/
theorem specPutNum_as {n : Int} {l : List UInt8} (h : Hid (numBytes n = l)) (w : World) (h0 : -9223372036854775808 ≤ n) (h1 : n ≤ 9223372036854775807) :
    Calls Tryd.prog 6 #[.int .i64 n] w fun e w' => e = .returned (.string ⟨l.toArray⟩) ∧ Below w.heap.size w w' := by
  rw [← h.out]
  exact specPutNum_any n w h0 h1
theorem implPutNum_as {n : Int} {l : List UInt8} (h : Hid (numBytes n = l)) (w : World) (h0 : -9223372036854775808 ≤ n) (h1 : n ≤ 9223372036854775807) :
    Calls Tryd.prog 5 #[.int .i64 n] w fun e w' => e = .returned (.string ⟨l.toArray⟩) ∧ Below w.heap.size w w' := by
  rw [← h.out]
  exact implPutNum_any n w h0 h1
end Go.Proofs.YteempfbcjlbcnaaDoor
