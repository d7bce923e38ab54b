/- The Name whose bytes a text is: the model's. For every text; nothing that was there is written. -/
import Derived.Test.YtnfedciblgapmaaNameImpl
import Derived.Test.YtnfedciblgapmaaLong
import Derived.Test.YtnfedciblgapmaaConv
import Derived.BigRegion
import Derived.BigQuiet
namespace Go.Proofs.Ytnfedciblgapmaa
open Go.RowKit
set_option linter.unusedVariables false

/-- The number of a text's first four bytes, the lowest first. -/
def lo4 (t : ByteArray) : Int := byteAt t 0 + 256 * byteAt t 1 + 65536 * byteAt t 2 + 16777216 * byteAt t 3
/-- The Name that eight bytes may be of. -/
def readNm (t : ByteArray) : Nm := ⟨lo4 t % 2097152, lo4 t / 2097152, byteAt t 4, byteAt t 5, byteAt t 6 / 2, byteAt t 7 % 16, byteAt t 7 / 16 % 8, decide (128 ≤ byteAt t 7)⟩
/-- A Name and a code, as a value. -/
def nmOutV (n : Nm) (c : Int) : Value := .agg #[.int .i64 n.u, .int .i64 n.m, .int .i64 n.i, .int .i64 n.f, .int .i64 n.c, .int .i64 n.s, .int .i64 n.y, .bool n.a, .int .i64 c]
def nm0 : Nm := ⟨0, 0, 0, 0, 0, 0, 0, false⟩
/-- Those are the bytes of a Name. -/
def fromB (t : ByteArray) : Bool := nmBytes (readNm t) == t.toList
/-- What NameFrom answers. -/
def nameFromV (t : ByteArray) : Value := if 8000 < t.size then nmOutV nm0 2 else if t.size ≠ 8 then nmOutV nm0 3 else if fromB t = true then nmOutV (readNm t) 0 else nmOutV nm0 3
theorem lo4_lo (t : ByteArray) : 0 ≤ lo4 t := by
  unfold lo4
  have h0 := byteAt_lo t 0
  have h1 := byteAt_lo t 1
  have h2 := byteAt_lo t 2
  have h3 := byteAt_lo t 3
  omega
theorem lo4_hi (t : ByteArray) : lo4 t ≤ 4294967295 := by
  unfold lo4
  have h0 := byteAt_hi t 0
  have h1 := byteAt_hi t 1
  have h2 := byteAt_hi t 2
  have h3 := byteAt_hi t 3
  omega

set_option maxRecDepth 100000 in
set_option maxHeartbeats 4000000 in
theorem specNameFrom_mid (t : ByteArray) (w : World) (hs : t.size = 8) :
    Calls Try.prog 14 #[.string t] w fun e w' => e = .returned (if fromB t = true then nmOutV (readNm t) 0 else nmOutV nm0 3) ∧ Below w.heap.size w w' := by
  have hd : decide (8000 < (t.size : Int)) = false := by simp; omega
  have hd2 : ((t.size : Int) == 8) = true := by simp; omega
  have hd3 : ((t.size : Int) != 8) = false := by simp; omega
  have HB := fun W => Lib.hid (specNameBytes_any (readNm t) W)
  have hq : fromB t = (nmBytes (readNm t) == t.toList) := rfl
  have HRD := Lib.hid (show readNm t = ⟨lo4 t % 2097152, lo4 t / 2097152, byteAt t 4, byteAt t 5, byteAt t 6 / 2, byteAt t 7 % 16, byteAt t 7 / 16 % 8, decide (128 ≤ byteAt t 7)⟩ from rfl)
  obtain ⟨l, hl⟩ : ∃ l, nmBytes (readNm t) = l := ⟨_, rfl⟩
  rw [hl] at HB hq
  rw [HRD.out] at HB ⊢
  clear hl
  have HE := Lib.hid (show byteAt t 0 + 256 * byteAt t 1 + 65536 * byteAt t 2 + 16777216 * byteAt t 3 = lo4 t from rfl)
  have k0 := lo4_lo t
  have k1 := lo4_hi t
  generalize lo4 t = k at *
  have b0 := byteAt_get t 0 (by omega)
  have b1 := byteAt_get t 1 (by omega)
  have b2 := byteAt_get t 2 (by omega)
  have b3 := byteAt_get t 3 (by omega)
  have b4 := byteAt_get t 4 (by omega)
  have b5 := byteAt_get t 5 (by omega)
  have b6 := byteAt_get t 6 (by omega)
  have b7 := byteAt_get t 7 (by omega)
  have l0 := byteAt_lo t 0
  have l1 := byteAt_lo t 1
  have l2 := byteAt_lo t 2
  have l3 := byteAt_lo t 3
  have l4 := byteAt_lo t 4
  have l5 := byteAt_lo t 5
  have l6 := byteAt_lo t 6
  have l7 := byteAt_lo t 7
  have m0 := byteAt_hi t 0
  have m1 := byteAt_hi t 1
  have m2 := byteAt_hi t 2
  have m3 := byteAt_hi t 3
  have m4 := byteAt_hi t 4
  have m5 := byteAt_hi t 5
  have m6 := byteAt_hi t 6
  have m7 := byteAt_hi t 7
  clear HRD
  generalize byteAt t 0 = x0 at *
  generalize byteAt t 1 = x1 at *
  generalize byteAt t 2 = x2 at *
  generalize byteAt t 3 = x3 at *
  generalize byteAt t 4 = x4 at *
  generalize byteAt t 5 = x5 at *
  generalize byteAt t 6 = x6 at *
  generalize byteAt t 7 = x7 at *
  have hE : x0 + 256 * x1 + 65536 * x2 + 16777216 * x3 = k := HE.out
  clear HE
  unfold nmV at HB
  generalize fromB t = q at *
  go_enter Try.func14, Try.ntmps14
  go_wp2
  go_quiet (fail)
  go_wp2_with fail
  have bU : Below w.heap.size w ((w.alloc (.cells #[.int .i64 0, .int .i64 0, .int .i64 0, .int .i64 0, .int .i64 0, .int .i64 0, .int .i64 0, .bool false, .int .i64 0] 29)).drewN nq) := below_drewN' ((Below.refl _ _).alloc (Nat.le_refl _) _) _
  have zU : ((w.alloc (.cells #[.int .i64 0, .int .i64 0, .int .i64 0, .int .i64 0, .int .i64 0, .int .i64 0, .int .i64 0, .bool false, .int .i64 0] 29)).drewN nq).heap.size = w.heap.size + 1 := by simp [World.drewN]
  have hU : ((w.alloc (.cells #[.int .i64 0, .int .i64 0, .int .i64 0, .int .i64 0, .int .i64 0, .int .i64 0, .int .i64 0, .bool false, .int .i64 0] 29)).drewN nq).heap[w.heap.size]? = some (.cells #[.int .i64 0, .int .i64 0, .int .i64 0, .int .i64 0, .int .i64 0, .int .i64 0, .int .i64 0, .bool false, .int .i64 0] 29 (0, 0)) := heap_alloc_new _ _
  generalize (w.alloc (.cells #[.int .i64 0, .int .i64 0, .int .i64 0, .int .i64 0, .int .i64 0, .int .i64 0, .int .i64 0, .bool false, .int .i64 0] 29)).drewN nq = U at *
  have HU := Lib.hid hU
  clear hU
  go_region
  go_wp2_with fail
  refine (HB _).out.mono ?_
  rintro e w1 ⟨rfl, h1⟩
  have B1 : Below (w.heap.size + 1) U w1 := ((Below.refl _ U).alloc (by omega) _).drew.trans (h1.mono (by simp; omega))
  have bw : Below w.heap.size w w1 := bU.trans (B1.mono (by omega))
  have z1 : w.heap.size + 1 < w1.heap.size := by have := h1.size; simp at this; omega
  have hN : w1.heap[w.heap.size + 1]? = some (.cells #[.int .i64 (k % 2097152), .int .i64 (k / 2097152), .int .i64 x4, .int .i64 x5, .int .i64 (x6 / 2), .int .i64 (x7 % 16), .int .i64 (x7 / 16 % 8), .bool (decide (128 ≤ x7))] 24 (0, 0)) := by
    rw [h1.block _ (by simp; omega)]
    show (U.alloc (.cells #[.int .i64 (k % 2097152), .int .i64 (k / 2097152), .int .i64 x4, .int .i64 x5, .int .i64 (x6 / 2), .int .i64 (x7 % 16), .int .i64 (x7 / 16 % 8), .bool (decide (128 ≤ x7))] 24)).heap[w.heap.size + 1]? = _
    rw [← zU]
    exact heap_alloc_new U _
  have hM : w1.heap[w.heap.size]? = _ := (B1.block _ (by omega)).trans HU.out
  have n0 := cell_of_row w1 (w.heap.size + 1) 0 _ _ (0, 0) hN
  have n1 := cell_of_row w1 (w.heap.size + 1) 1 _ _ (0, 0) hN
  have n2 := cell_of_row w1 (w.heap.size + 1) 2 _ _ (0, 0) hN
  have n3 := cell_of_row w1 (w.heap.size + 1) 3 _ _ (0, 0) hN
  have n4 := cell_of_row w1 (w.heap.size + 1) 4 _ _ (0, 0) hN
  have n5 := cell_of_row w1 (w.heap.size + 1) 5 _ _ (0, 0) hN
  have n6 := cell_of_row w1 (w.heap.size + 1) 6 _ _ (0, 0) hN
  have n7 := cell_of_row w1 (w.heap.size + 1) 7 _ _ (0, 0) hN
  have r0 := cell_of_row w1 w.heap.size 0 _ _ (0, 0) hM
  have r1 := cell_of_row w1 w.heap.size 1 _ _ (0, 0) hM
  have r2 := cell_of_row w1 w.heap.size 2 _ _ (0, 0) hM
  have r3 := cell_of_row w1 w.heap.size 3 _ _ (0, 0) hM
  have r4 := cell_of_row w1 w.heap.size 4 _ _ (0, 0) hM
  have r5 := cell_of_row w1 w.heap.size 5 _ _ (0, 0) hM
  have r6 := cell_of_row w1 w.heap.size 6 _ _ (0, 0) hM
  have r7 := cell_of_row w1 w.heap.size 7 _ _ (0, 0) hM
  have r8 := cell_of_row w1 w.heap.size 8 _ _ (0, 0) hM
  have g0 := frozen_of_row w1 w.heap.size 0 _ _ hM
  have g1 := frozen_of_row w1 w.heap.size 1 _ _ hM
  have g2 := frozen_of_row w1 w.heap.size 2 _ _ hM
  have g3 := frozen_of_row w1 w.heap.size 3 _ _ hM
  have g4 := frozen_of_row w1 w.heap.size 4 _ _ hM
  have g5 := frozen_of_row w1 w.heap.size 5 _ _ hM
  have g6 := frozen_of_row w1 w.heap.size 6 _ _ hM
  have g7 := frozen_of_row w1 w.heap.size 7 _ _ hM
  have g8 := frozen_of_row w1 w.heap.size 8 _ _ hM
  simp at n0 n1 n2 n3 n4 n5 n6 n7 r0 r1 r2 r3 r4 r5 r6 r7 r8
  clear B1 h1 HU hN hM
  cases q
  · have hq' : (l == t.toList) = false := hq.symm
    clear hq
    go_wp2
    exact bodyPost_ret (v := nmOutV nm0 3) (by simp [results, Try.results14, go_sem, r0, r1, r2, r3, r4, r5, r6, r7, r8, nmOutV, nm0]) rfl
      ⟨rfl, (((((((((bw).setCell (p := ⟨w.heap.size, 0, none⟩) (Nat.le_refl _) _).setCell (p := ⟨w.heap.size, 1, none⟩) (Nat.le_refl _) _).setCell (p := ⟨w.heap.size, 2, none⟩) (Nat.le_refl _) _).setCell (p := ⟨w.heap.size, 3, none⟩) (Nat.le_refl _) _).setCell (p := ⟨w.heap.size, 4, none⟩) (Nat.le_refl _) _).setCell (p := ⟨w.heap.size, 5, none⟩) (Nat.le_refl _) _).setCell (p := ⟨w.heap.size, 6, none⟩) (Nat.le_refl _) _).setCell (p := ⟨w.heap.size, 7, none⟩) (Nat.le_refl _) _).setCell (p := ⟨w.heap.size, 8, none⟩) (Nat.le_refl _) _⟩
  · have hq' : (l == t.toList) = true := hq.symm
    clear hq
    go_wp2
    exact bodyPost_ret (v := nmOutV ⟨k % 2097152, k / 2097152, x4, x5, x6 / 2, x7 % 16, x7 / 16 % 8, decide (128 ≤ x7)⟩ 0) (by simp [results, Try.results14, go_sem, r0, r1, r2, r3, r4, r5, r6, r7, r8, nmOutV]) rfl
      ⟨rfl, (((((((((bw).setCell (p := ⟨w.heap.size, 0, none⟩) (Nat.le_refl _) _).setCell (p := ⟨w.heap.size, 1, none⟩) (Nat.le_refl _) _).setCell (p := ⟨w.heap.size, 2, none⟩) (Nat.le_refl _) _).setCell (p := ⟨w.heap.size, 3, none⟩) (Nat.le_refl _) _).setCell (p := ⟨w.heap.size, 4, none⟩) (Nat.le_refl _) _).setCell (p := ⟨w.heap.size, 5, none⟩) (Nat.le_refl _) _).setCell (p := ⟨w.heap.size, 6, none⟩) (Nat.le_refl _) _).setCell (p := ⟨w.heap.size, 7, none⟩) (Nat.le_refl _) _).setCell (p := ⟨w.heap.size, 8, none⟩) (Nat.le_refl _) _⟩
end Go.Proofs.Ytnfedciblgapmaa
