/- The walk of the law on drawn bits and Fields. Nothing that was there is written. -/
import Derived.Test.YtigenkcamhenaaaBitsBack
import Derived.Test.YtigenkcamhenaaaBitsGetS
import Derived.Test.YtigenkcamhenaaaBitsGetI
import Derived.Test.YtigenkcamhenaaaBitsPutS
import Derived.Test.YtigenkcamhenaaaBitsPutI
import Derived.Test.YtigenkcamhenaaaDrawLow
import Derived.Test.YtigenkcamhenaaaDrawFGet
import Derived.Test.YtigenkcamhenaaaDrawFPut
import Derived.Test.YtigenkcamhenaaaDrawVR
namespace Go.Proofs.Ytigenkcamhenaaa
open Go.RowKit
set_option linter.unusedVariables false
set_option maxRecDepth 100000 in
set_option maxHeartbeats 100000000 in
theorem bitsWalk (a0 : Option Addr) (len0 cap0 : Nat) (z0 : List Int) (a1 : Option Addr) (len1 cap1 : Nat) (z1 : List Int) (w : World) (r0 : RowIn w a0 len0 z0) (b0 : 0 < len0 → ∀ b o, a0 = some ⟨b, o, none⟩ → b < w.heap.size) (r1 : RowIn w a1 len1 z1) (b1 : 0 < len1 → ∀ b o, a1 = some ⟨b, o, none⟩ → b < w.heap.size) :
    Calls Try.prog 5 #[.slice a0 len0 cap0, .slice a1 len1 cap1] w fun e w' => e = .returned (.bool true) ∧ Below w.heap.size w w' := by
  by_cases hbig : 1048576 < len0
  · have hd : decide (1048576 < (len0 : Int)) = true := by simp; omega
    go_enter Try.func5, Try.ntmps5
    go_wp2_with fail
    go_ret
    exact ⟨rfl, Below.refl _ _⟩
  have hd0 : decide (1048576 < (len0 : Int)) = false := by simp; omega
  by_cases hbig1 : 1048576 < len1
  · have hd : decide (1048576 < (len1 : Int)) = true := by simp; omega
    go_enter Try.func5, Try.ntmps5
    go_wp2_with fail
    go_ret
    exact ⟨rfl, Below.refl _ _⟩
  have hd1 : decide (1048576 < (len1 : Int)) = false := by simp; omega
  have R0 := Lib.hid r0
  have B0 := Lib.hid b0
  have R1 := Lib.hid r1
  have B1 := Lib.hid b1
  have l0 : len0 ≤ 1048576 := by omega
  have l1 : len1 ≤ 1048576 := by omega
  clear r0 b0 r1 b1 hbig hbig1
  have KP0 : ∀ U, Below w.heap.size w U → Hid (RowIn U a0 len0 z0 ∧ (0 < len0 → ∀ b o, a0 = some ⟨b, o, none⟩ → b < U.heap.size)) := fun U h => Lib.hid ⟨R0.out.kept h B0.out, fun q b o e => Nat.lt_of_lt_of_le (B0.out q b o e) h.size⟩
  have KP1 : ∀ U, Below w.heap.size w U → Hid (RowIn U a1 len1 z1 ∧ (0 < len1 → ∀ b o, a1 = some ⟨b, o, none⟩ → b < U.heap.size)) := fun U h => Lib.hid ⟨R1.out.kept h B1.out, fun q b o e => Nat.lt_of_lt_of_le (B1.out q b o e) h.size⟩
  have T0 := Lib.hid (Below.refl w.heap.size w)
  have K0 := KP0 w T0.out
  go_enter Try.func5, Try.ntmps5
  go_wp2_with fail
  refine (drawPutBits_any K0.out.1 l0 K0.out.2).mono ?_
  rintro e u1 ⟨L1, x1, y1, n1, hL1, hx1, hy1, hn1, rfl, h⟩
  have T1 := Lib.hid h
  obtain ⟨s1, es1, hs1⟩ : ∃ s : ByteArray, (ByteArray.mk L1.toArray) = s ∧ s.size ≤ 12 := ⟨_, rfl, by rw [size_mk]; exact hL1⟩
  rw [es1]
  clear h es1 hL1 K0
  have hm1 : s1.size ≤ maxLen := by unfold maxLen; omega
  obtain ⟨P1, eP1⟩ : ∃ P, (ByteArray.mk (putI s1 x1 y1 n1).toArray) = P := ⟨_, rfl⟩
  have hP1 : P1.size = s1.size := by rw [← eP1, size_mk]; exact putI_len (by omega)
  have EP1 := Lib.hid eP1
  have HIP := fun U => implPutBits_any s1 x1 y1 n1 U hm1
  have HSP := fun U => Lib.hid (specPutBits_any s1 x1 y1 n1 U hm1)
  rw [eP1] at HIP HSP
  clear eP1
  have HIP := Lib.hid HIP
  go_wp2_with fail
  refine (HIP.out _).mono ?_
  rintro e u2 ⟨rfl, h⟩
  have T2 := Lib.hid (T1.out.trans (h.mono T1.out.size))
  clear h HIP
  have K1 := KP1 u2 T2.out
  go_wp2_with fail
  refine (drawGetBits_any K1.out.1 l1 K1.out.2).mono ?_
  rintro e u3 ⟨L2, x2, y2, hL2, hx2, hy2, rfl, h⟩
  have T3 := Lib.hid (T2.out.trans (h.mono T2.out.size))
  obtain ⟨s2, es2, hs2⟩ : ∃ s : ByteArray, (ByteArray.mk L2.toArray) = s ∧ s.size ≤ maxLen := ⟨_, rfl, by rw [size_mk]; unfold maxLen; omega⟩
  rw [es2]
  clear h es2 hL2 K1
  have K1 := KP1 u3 T3.out
  go_wp2_with fail
  refine (drawFieldPut_any K1.out.1 l1 K1.out.2).mono ?_
  rintro e u4 ⟨L3, x3, y3, g3, k3, n3, hL3, hx3, hy3, hk3, hn3, rfl, h⟩
  have T4 := Lib.hid (T3.out.trans (h.mono T3.out.size))
  obtain ⟨s3, es3, hs3⟩ : ∃ s : ByteArray, (ByteArray.mk L3.toArray) = s ∧ s.size ≤ 12 := ⟨_, rfl, by rw [size_mk]; exact hL3⟩
  rw [es3]
  clear h es3 hL3 K1
  have hm3 : s3.size ≤ maxLen := by unfold maxLen; omega
  obtain ⟨Q3, eQ3⟩ : ∃ P, (ByteArray.mk (fputI s3 x3 y3 g3 k3 n3).toArray) = P := ⟨_, rfl⟩
  have hQ3 : Q3.size = s3.size := by rw [← eQ3, size_mk]; exact fputI_len (by omega)
  have EQ3 := Lib.hid eQ3
  have HIQ := fun U => implFieldPut_any s3 x3 y3 g3 k3 n3 U hm3
  have HSQ := fun U => specFieldPut_any s3 x3 y3 g3 k3 n3 U hm3
  rw [eQ3] at HIQ HSQ
  clear eQ3
  unfold fdV vlV at HIQ HSQ
  have HIQ := Lib.hid HIQ
  have HSQ := Lib.hid HSQ
  have A4F := Lib.hid (twoF u4 x3 y3 g3 k3 n3)
  have A4V := Lib.hid (twoV u4 x3 y3 g3 k3 n3)
  go_wp2_with fail
  refine (HIQ.out _).mono ?_
  rintro e u5 ⟨rfl, h⟩
  have T5 := Lib.hid (((T4.out.alloc T4.out.size _).alloc (by have := T4.out.size; simp; omega) _).trans (h.mono (by have := T4.out.size; simp; omega)))
  have A5F := Lib.hid ((h.block u4.heap.size (by simp; omega)).trans A4F.out)
  have A5V := Lib.hid ((h.block (u4.heap.size + 1) (by simp)).trans A4V.out)
  have z45 : u4.heap.size + 1 < u5.heap.size := by have := h.size; simp at this; omega
  clear h HIQ A4F A4V
  have K0 := KP0 u5 T5.out
  go_wp2_with fail
  refine (drawFieldGet_any K0.out.1 l0 K0.out.2).mono ?_
  rintro e u6 ⟨L4, x4, y4, g4, hL4, hx4, hy4, rfl, h⟩
  have T6 := Lib.hid (T5.out.trans (h.mono T5.out.size))
  have A6F := Lib.hid ((h.block u4.heap.size (by omega)).trans A5F.out)
  have A6V := Lib.hid ((h.block (u4.heap.size + 1) (by omega)).trans A5V.out)
  have z56 := h.size
  obtain ⟨s4, es4, hs4⟩ : ∃ s : ByteArray, (ByteArray.mk L4.toArray) = s ∧ s.size ≤ maxLen := ⟨_, rfl, by rw [size_mk]; unfold maxLen; omega⟩
  rw [es4]
  clear h es4 hL4 K0 A5F A5V
  have TA6 := Lib.hid (T6.out.alloc T6.out.size (.cells #[.int .i64 x4, .int .i64 y4, .bool g4] 67))
  have K0 := KP0 _ TA6.out
  go_wp2_with fail
  refine (drawValueRight_any K0.out.1 l0 K0.out.2).mono ?_
  rintro e u7 ⟨x5, y5, g5, k5, n5, hx5, hy5, hk5, hn5, rfl, h⟩
  have T7 := Lib.hid (TA6.out.trans (h.mono TA6.out.size))
  have A7F := Lib.hid ((h.block u4.heap.size (by simp; omega)).trans ((Below.heap_alloc u6 _ _ (by omega)).trans A6F.out))
  have A7V := Lib.hid ((h.block (u4.heap.size + 1) (by simp; omega)).trans ((Below.heap_alloc u6 _ _ (by omega)).trans A6V.out))
  have A7H := Lib.hid ((h.block u6.heap.size (by simp)).trans (heap_alloc_new u6 (.cells #[.int .i64 x4, .int .i64 y4, .bool g4] 67)))
  have z67 : u6.heap.size < u7.heap.size := by have := h.size; simp at this; omega
  clear h K0 A6F A6V
  have TA7 := Lib.hid (show Below w.heap.size w ((u7.alloc (.cells #[.int .i64 x5, .int .i64 y5, .bool g5] 67)).alloc (.cells #[.int .i64 k5, .int .i64 n5] 69)) from (T7.out.alloc T7.out.size _).alloc (by have := T7.out.size; simp; omega) _)
  have B7F := Lib.hid (twoF u7 x5 y5 g5 k5 n5)
  have B7V := Lib.hid (twoV u7 x5 y5 g5 k5 n5)
  have K1 := KP1 _ TA7.out
  go_wp2_with fail
  refine (drawLowOf_any K1.out.1 l1 K1.out.2).mono ?_
  rintro e u8 ⟨x6, y6, g6, hx6, hy6, rfl, h⟩
  have T8 := Lib.hid (TA7.out.trans (h.mono TA7.out.size))
  have old : ∀ k, k < u7.heap.size → u8.heap[k]? = u7.heap[k]? := fun k hk => (h.block k (by simp; omega)).trans ((Below.heap_alloc _ _ _ (by simp; omega)).trans (Below.heap_alloc u7 _ _ hk))
  have A8F := Lib.hid ((old u4.heap.size (by omega)).trans A7F.out)
  have A8V := Lib.hid ((old (u4.heap.size + 1) (by omega)).trans A7V.out)
  have A8H := Lib.hid ((old u6.heap.size (by omega)).trans A7H.out)
  have A8A := Lib.hid ((h.block u7.heap.size (by simp; omega)).trans B7F.out)
  have A8B := Lib.hid ((h.block (u7.heap.size + 1) (by simp)).trans B7V.out)
  have z78 : u7.heap.size + 1 < u8.heap.size := by have := h.size; simp at this; omega
  clear h old K1 A7F A7V A7H B7F B7V
  obtain ⟨F, eF⟩ : ∃ F, u4.heap.size = F := ⟨_, rfl⟩
  obtain ⟨H, eH⟩ : ∃ F, u6.heap.size = F := ⟨_, rfl⟩
  obtain ⟨A, eA⟩ : ∃ F, u7.heap.size = F := ⟨_, rfl⟩
  obtain ⟨E, eE⟩ : ∃ F, u8.heap.size = F := ⟨_, rfl⟩
  have UF := Lib.hid ((Below.heap_alloc u8 (.cells #[.int .i64 x6, .int .i64 y6, .bool g6] 67) _ (by omega)).trans A8F.out)
  have UV := Lib.hid ((Below.heap_alloc u8 (.cells #[.int .i64 x6, .int .i64 y6, .bool g6] 67) _ (by omega)).trans A8V.out)
  have UH := Lib.hid ((Below.heap_alloc u8 (.cells #[.int .i64 x6, .int .i64 y6, .bool g6] 67) _ (by omega)).trans A8H.out)
  have UA := Lib.hid ((Below.heap_alloc u8 (.cells #[.int .i64 x6, .int .i64 y6, .bool g6] 67) _ (by omega)).trans A8A.out)
  have UB := Lib.hid ((Below.heap_alloc u8 (.cells #[.int .i64 x6, .int .i64 y6, .bool g6] 67) _ (by omega)).trans A8B.out)
  have UE := Lib.hid (heap_alloc_new u8 (.cells #[.int .i64 x6, .int .i64 y6, .bool g6] 67))
  have TU := Lib.hid (T8.out.alloc T8.out.size (.cells #[.int .i64 x6, .int .i64 y6, .bool g6] 67))
  have zU : (u8.alloc (.cells #[.int .i64 x6, .int .i64 y6, .bool g6] 67)).heap.size = u8.heap.size + 1 := by simp
  go_wp2_with fail
  rw [eF] at UF UV z45
  rw [eH] at UH z67
  rw [eA] at UA UB z78 z67
  rw [eE] at UE z78 zU
  generalize u8.alloc (.cells #[.int .i64 x6, .int .i64 y6, .bool g6] 67) = U at *
  have lF : F < U.heap.size := by omega
  have lV : F + 1 < U.heap.size := by omega
  have lH : H < U.heap.size := by omega
  have lA : A < U.heap.size := by omega
  have lB : A + 1 < U.heap.size := by omega
  have lE : E < U.heap.size := by omega
  have CF := fun W (hW : Below U.heap.size U W) => Lib.hid (fdCells ((hW.block F lF).trans UF.out))
  have CV := fun W (hW : Below U.heap.size U W) => Lib.hid (vlCells ((hW.block (F + 1) lV).trans UV.out))
  have CH := fun W (hW : Below U.heap.size U W) => Lib.hid (fdCells ((hW.block H lH).trans UH.out))
  have CA := fun W (hW : Below U.heap.size U W) => Lib.hid (fdCells ((hW.block A lA).trans UA.out))
  have CB' := fun W (hW : Below U.heap.size U W) => Lib.hid (vlCells ((hW.block (A + 1) lB).trans UB.out))
  have CE := fun W (hW : Below U.heap.size U W) => Lib.hid (fdCells ((hW.block E lE).trans UE.out))
  clear A8F A8V A8H A8A A8B KP0 KP1 R0 B0 R1 B1 TA6 TA7 T1 T2 T3 T4 T5 T6 T7 T8 z45 z56 z67 z78 zU
  have HIG2 := fun W => Lib.hid (implGetBits_any s2 x2 y2 W hs2)
  have HSG2 := fun W => Lib.hid (specGetBits_any s2 x2 y2 W hs2)
  generalize getI s2 x2 y2 = G2 at HIG2 HSG2
  have HIF4 := fun W => Lib.hid (implFieldGet_any s4 x4 y4 g4 W hs4)
  have HSF4 := fun W => Lib.hid (specFieldGet_any s4 x4 y4 g4 W hs4)
  generalize fgetI s4 x4 y4 g4 = m4 at HIF4 HSF4
  obtain ⟨m41, m42⟩ := m4
  have HIV5 := fun W => Lib.hid (implValueRight_any x5 y5 g5 k5 n5 W)
  have HSV5 := fun W => Lib.hid (specValueRight_any x5 y5 g5 k5 n5 W)
  generalize valB x5 y5 g5 k5 n5 = r5 at HIV5 HSV5
  have HIL := fun W => Lib.hid (implLowOf_any x6 y6 g6 W)
  have HSL := fun W => Lib.hid (specLowOf_any x6 y6 g6 W)
  generalize lowI x6 y6 g6 = lo6 at HIL HSL
  have HIH := fun W => Lib.hid (implHighOf_any x6 y6 g6 W)
  have HSH := fun W => Lib.hid (specHighOf_any x6 y6 g6 W)
  generalize highI x6 y6 g6 = hi6 at HIH HSH
  have HIR := fun W => Lib.hid (implFieldRight_any x3 y3 g3 W)
  have HSR := fun W => Lib.hid (specFieldRight_any x3 y3 g3 W)
  generalize fieldB x3 y3 = f3 at HIR HSR
  simp only [fdV, vlV] at HIF4 HSF4 HIV5 HSV5 HIL HSL HIH HSH HIR HSR
  refine wp_region_quiet (C := fun W => Below U.heap.size U W) (by kernel_rfl) (by kernel_rfl) ((Below.refl _ _).drew) ?_
  dsimp only
  simp only [List.append]
  go_big_quiet_want; go_big_quiet_op; first | go_big_quiet_on | (refine ⟨_, fun _ _ => rfl, ?_⟩; go_big_quiet_on)
  go_big_quiet_want; go_big_quiet_op; first | go_big_quiet_on | (refine ⟨_, fun _ _ => rfl, ?_⟩; go_big_quiet_on)
  go_big_quiet_want; go_big_quiet_op; first | go_big_quiet_on | (refine ⟨_, fun _ _ => rfl, ?_⟩; go_big_quiet_on)
  go_big_quiet_want; go_big_quiet_op; first | go_big_quiet_on | (refine ⟨_, fun _ _ => rfl, ?_⟩; go_big_quiet_on)
  go_big_quiet_want; go_big_quiet_op; first | go_big_quiet_on | (refine ⟨_, fun _ _ => rfl, ?_⟩; go_big_quiet_on)
  go_big_quiet_want; go_big_quiet_op; refine ⟨_, fun W hW => quietCall hW (HSP W).out, ?_⟩; go_big_quiet_on
  go_big_quiet_want; refine ⟨.bool false, fun W hW => (by simp [Oper.quietAt, Oper.quietUpon, go_sem]), ?_⟩; simp only [Act.put, List.setIfInBounds_toArray, List.set_cons_zero, List.set_cons_succ]; go_big_quiet_on
  go_big_quiet_want; go_big_quiet_op; first | go_big_quiet_on | (refine ⟨_, fun _ _ => rfl, ?_⟩; go_big_quiet_on)
  go_big_quiet_want; go_big_quiet_op; first | go_big_quiet_on | (refine ⟨_, fun _ _ => rfl, ?_⟩; go_big_quiet_on)
  go_big_quiet_want; go_big_quiet_op; first | go_big_quiet_on | (refine ⟨_, fun _ _ => rfl, ?_⟩; go_big_quiet_on)
  go_big_quiet_want; go_big_quiet_op; first | go_big_quiet_on | (refine ⟨_, fun _ _ => rfl, ?_⟩; go_big_quiet_on)
  go_big_quiet_want; go_big_quiet_op; refine ⟨_, fun W hW => quietCall hW (HIG2 W).out, ?_⟩; go_big_quiet_on
  go_big_quiet_want; go_big_quiet_op; first | go_big_quiet_on | (refine ⟨_, fun _ _ => rfl, ?_⟩; go_big_quiet_on)
  go_big_quiet_want; go_big_quiet_op; first | go_big_quiet_on | (refine ⟨_, fun _ _ => rfl, ?_⟩; go_big_quiet_on)
  go_big_quiet_want; go_big_quiet_op; first | go_big_quiet_on | (refine ⟨_, fun _ _ => rfl, ?_⟩; go_big_quiet_on)
  go_big_quiet_want; go_big_quiet_op; refine ⟨_, fun W hW => quietCall hW (HSG2 W).out, ?_⟩; go_big_quiet_on
  go_big_quiet_want; refine ⟨.bool false, fun W hW => (by simp [Oper.quietAt, Oper.quietUpon, go_sem]), ?_⟩; simp only [Act.put, List.setIfInBounds_toArray, List.set_cons_zero, List.set_cons_succ]; go_big_quiet_on
  go_big_quiet_want; go_big_quiet_op; first | go_big_quiet_on | (refine ⟨_, fun _ _ => rfl, ?_⟩; go_big_quiet_on)
  go_big_quiet_want; go_big_quiet_op; first | go_big_quiet_on | (refine ⟨_, fun _ _ => rfl, ?_⟩; go_big_quiet_on)
  go_big_quiet_want; go_big_quiet_op; first | go_big_quiet_on | (refine ⟨_, fun _ _ => rfl, ?_⟩; go_big_quiet_on)
  go_big_quiet_want; go_big_quiet_op; first | go_big_quiet_on | (refine ⟨_, fun _ _ => rfl, ?_⟩; go_big_quiet_on)
  go_big_quiet_want; refine ⟨.agg #[.int .i64 x3, .int .i64 y3, .bool g3], fun W hW => (by obtain ⟨e0, e1, e2⟩ := (CF W hW).out; simp [Oper.quietAt, Oper.quietUpon, go_sem, e0, e1, e2]), ?_⟩; simp only [Act.put, List.setIfInBounds_toArray, List.set_cons_zero, List.set_cons_succ]; go_big_quiet_on
  go_big_quiet_want; refine ⟨.agg #[.int .i64 k3, .int .i64 n3], fun W hW => (by obtain ⟨e0, e1⟩ := (CV W hW).out; simp [Oper.quietAt, Oper.quietUpon, go_sem, e0, e1]), ?_⟩; simp only [Act.put, List.setIfInBounds_toArray, List.set_cons_zero, List.set_cons_succ]; go_big_quiet_on
  go_big_quiet_want; go_big_quiet_op; refine ⟨_, fun W hW => quietCall hW (HSQ.out W), ?_⟩; go_big_quiet_on
  go_big_quiet_want; refine ⟨.bool false, fun W hW => (by simp [Oper.quietAt, Oper.quietUpon, go_sem]), ?_⟩; simp only [Act.put, List.setIfInBounds_toArray, List.set_cons_zero, List.set_cons_succ]; go_big_quiet_on
  go_big_quiet_want; go_big_quiet_op; first | go_big_quiet_on | (refine ⟨_, fun _ _ => rfl, ?_⟩; go_big_quiet_on)
  go_big_quiet_want; go_big_quiet_op; first | go_big_quiet_on | (refine ⟨_, fun _ _ => rfl, ?_⟩; go_big_quiet_on)
  go_big_quiet_want; go_big_quiet_op; first | go_big_quiet_on | (refine ⟨_, fun _ _ => rfl, ?_⟩; go_big_quiet_on)
  go_big_quiet_want; refine ⟨.agg #[.int .i64 x4, .int .i64 y4, .bool g4], fun W hW => (by obtain ⟨e0, e1, e2⟩ := (CH W hW).out; simp [Oper.quietAt, Oper.quietUpon, go_sem, e0, e1, e2]), ?_⟩; simp only [Act.put, List.setIfInBounds_toArray, List.set_cons_zero, List.set_cons_succ]; go_big_quiet_on
  go_big_quiet_want; go_big_quiet_op; refine ⟨_, fun W hW => quietCall hW (HIF4 W).out, ?_⟩; go_big_quiet_on
  go_big_quiet_want; go_big_quiet_op; first | go_big_quiet_on | (refine ⟨_, fun _ _ => rfl, ?_⟩; go_big_quiet_on)
  go_big_quiet_want; refine ⟨.agg #[.int .i64 x4, .int .i64 y4, .bool g4], fun W hW => (by obtain ⟨e0, e1, e2⟩ := (CH W hW).out; simp [Oper.quietAt, Oper.quietUpon, go_sem, e0, e1, e2]), ?_⟩; simp only [Act.put, List.setIfInBounds_toArray, List.set_cons_zero, List.set_cons_succ]; go_big_quiet_on
  go_big_quiet_want; go_big_quiet_op; refine ⟨_, fun W hW => quietCall hW (HSF4 W).out, ?_⟩; go_big_quiet_on
  go_big_quiet_want; refine ⟨.bool false, fun W hW => (by simp [Oper.quietAt, Oper.quietUpon, go_sem]), ?_⟩; simp only [Act.put, List.setIfInBounds_toArray, List.set_cons_zero, List.set_cons_succ]; go_big_quiet_on
  go_big_quiet_want; go_big_quiet_op; first | go_big_quiet_on | (refine ⟨_, fun _ _ => rfl, ?_⟩; go_big_quiet_on)
  go_big_quiet_want; go_big_quiet_op; first | go_big_quiet_on | (refine ⟨_, fun _ _ => rfl, ?_⟩; go_big_quiet_on)
  go_big_quiet_want; refine ⟨.agg #[.int .i64 x5, .int .i64 y5, .bool g5], fun W hW => (by obtain ⟨e0, e1, e2⟩ := (CA W hW).out; simp [Oper.quietAt, Oper.quietUpon, go_sem, e0, e1, e2]), ?_⟩; simp only [Act.put, List.setIfInBounds_toArray, List.set_cons_zero, List.set_cons_succ]; go_big_quiet_on
  go_big_quiet_want; refine ⟨.agg #[.int .i64 k5, .int .i64 n5], fun W hW => (by obtain ⟨e0, e1⟩ := (CB' W hW).out; simp [Oper.quietAt, Oper.quietUpon, go_sem, e0, e1]), ?_⟩; simp only [Act.put, List.setIfInBounds_toArray, List.set_cons_zero, List.set_cons_succ]; go_big_quiet_on
  go_big_quiet_want; go_big_quiet_op; refine ⟨_, fun W hW => quietCall hW (HIV5 W).out, ?_⟩; go_big_quiet_on
  go_big_quiet_want; refine ⟨.agg #[.int .i64 x5, .int .i64 y5, .bool g5], fun W hW => (by obtain ⟨e0, e1, e2⟩ := (CA W hW).out; simp [Oper.quietAt, Oper.quietUpon, go_sem, e0, e1, e2]), ?_⟩; simp only [Act.put, List.setIfInBounds_toArray, List.set_cons_zero, List.set_cons_succ]; go_big_quiet_on
  go_big_quiet_want; refine ⟨.agg #[.int .i64 k5, .int .i64 n5], fun W hW => (by obtain ⟨e0, e1⟩ := (CB' W hW).out; simp [Oper.quietAt, Oper.quietUpon, go_sem, e0, e1]), ?_⟩; simp only [Act.put, List.setIfInBounds_toArray, List.set_cons_zero, List.set_cons_succ]; go_big_quiet_on
  go_big_quiet_want; go_big_quiet_op; refine ⟨_, fun W hW => quietCall hW (HSV5 W).out, ?_⟩; go_big_quiet_on
  go_big_quiet_want; refine ⟨.bool false, fun W hW => (by simp [Oper.quietAt, Oper.quietUpon, go_sem]), ?_⟩; simp only [Act.put, List.setIfInBounds_toArray, List.set_cons_zero, List.set_cons_succ]; go_big_quiet_on
  go_big_quiet_want; go_big_quiet_op; first | go_big_quiet_on | (refine ⟨_, fun _ _ => rfl, ?_⟩; go_big_quiet_on)
  go_big_quiet_want; go_big_quiet_op; first | go_big_quiet_on | (refine ⟨_, fun _ _ => rfl, ?_⟩; go_big_quiet_on)
  go_big_quiet_want; refine ⟨.agg #[.int .i64 x6, .int .i64 y6, .bool g6], fun W hW => (by obtain ⟨e0, e1, e2⟩ := (CE W hW).out; simp [Oper.quietAt, Oper.quietUpon, go_sem, e0, e1, e2]), ?_⟩; simp only [Act.put, List.setIfInBounds_toArray, List.set_cons_zero, List.set_cons_succ]; go_big_quiet_on
  go_big_quiet_want; go_big_quiet_op; refine ⟨_, fun W hW => quietCall hW (HIL W).out, ?_⟩; go_big_quiet_on
  go_big_quiet_want; refine ⟨.agg #[.int .i64 x6, .int .i64 y6, .bool g6], fun W hW => (by obtain ⟨e0, e1, e2⟩ := (CE W hW).out; simp [Oper.quietAt, Oper.quietUpon, go_sem, e0, e1, e2]), ?_⟩; simp only [Act.put, List.setIfInBounds_toArray, List.set_cons_zero, List.set_cons_succ]; go_big_quiet_on
  go_big_quiet_want; go_big_quiet_op; refine ⟨_, fun W hW => quietCall hW (HSL W).out, ?_⟩; go_big_quiet_on
  go_big_quiet_want; refine ⟨.bool false, fun W hW => (by simp [Oper.quietAt, Oper.quietUpon, go_sem]), ?_⟩; simp only [Act.put, List.setIfInBounds_toArray, List.set_cons_zero, List.set_cons_succ]; go_big_quiet_on
  go_big_quiet_want; go_big_quiet_op; first | go_big_quiet_on | (refine ⟨_, fun _ _ => rfl, ?_⟩; go_big_quiet_on)
  go_big_quiet_want; go_big_quiet_op; first | go_big_quiet_on | (refine ⟨_, fun _ _ => rfl, ?_⟩; go_big_quiet_on)
  go_big_quiet_want; refine ⟨.agg #[.int .i64 x6, .int .i64 y6, .bool g6], fun W hW => (by obtain ⟨e0, e1, e2⟩ := (CE W hW).out; simp [Oper.quietAt, Oper.quietUpon, go_sem, e0, e1, e2]), ?_⟩; simp only [Act.put, List.setIfInBounds_toArray, List.set_cons_zero, List.set_cons_succ]; go_big_quiet_on
  go_big_quiet_want; go_big_quiet_op; refine ⟨_, fun W hW => quietCall hW (HIH W).out, ?_⟩; go_big_quiet_on
  go_big_quiet_want; refine ⟨.agg #[.int .i64 x6, .int .i64 y6, .bool g6], fun W hW => (by obtain ⟨e0, e1, e2⟩ := (CE W hW).out; simp [Oper.quietAt, Oper.quietUpon, go_sem, e0, e1, e2]), ?_⟩; simp only [Act.put, List.setIfInBounds_toArray, List.set_cons_zero, List.set_cons_succ]; go_big_quiet_on
  go_big_quiet_want; go_big_quiet_op; refine ⟨_, fun W hW => quietCall hW (HSH W).out, ?_⟩; go_big_quiet_on
  go_big_quiet_want; refine ⟨.bool false, fun W hW => (by simp [Oper.quietAt, Oper.quietUpon, go_sem]), ?_⟩; simp only [Act.put, List.setIfInBounds_toArray, List.set_cons_zero, List.set_cons_succ]; go_big_quiet_on
  go_big_quiet_want; go_big_quiet_op; first | go_big_quiet_on | (refine ⟨_, fun _ _ => rfl, ?_⟩; go_big_quiet_on)
  go_big_quiet_want; go_big_quiet_op; first | go_big_quiet_on | (refine ⟨_, fun _ _ => rfl, ?_⟩; go_big_quiet_on)
  go_big_quiet_want; refine ⟨.agg #[.int .i64 x3, .int .i64 y3, .bool g3], fun W hW => (by obtain ⟨e0, e1, e2⟩ := (CF W hW).out; simp [Oper.quietAt, Oper.quietUpon, go_sem, e0, e1, e2]), ?_⟩; simp only [Act.put, List.setIfInBounds_toArray, List.set_cons_zero, List.set_cons_succ]; go_big_quiet_on
  go_big_quiet_want; go_big_quiet_op; refine ⟨_, fun W hW => quietCall hW (HIR W).out, ?_⟩; go_big_quiet_on
  go_big_quiet_want; refine ⟨.agg #[.int .i64 x3, .int .i64 y3, .bool g3], fun W hW => (by obtain ⟨e0, e1, e2⟩ := (CF W hW).out; simp [Oper.quietAt, Oper.quietUpon, go_sem, e0, e1, e2]), ?_⟩; simp only [Act.put, List.setIfInBounds_toArray, List.set_cons_zero, List.set_cons_succ]; go_big_quiet_on
  go_big_quiet_want; go_big_quiet_op; refine ⟨_, fun W hW => quietCall hW (HSR W).out, ?_⟩; go_big_quiet_on
  go_big_quiet_want; refine ⟨.bool false, fun W hW => (by simp [Oper.quietAt, Oper.quietUpon, go_sem]), ?_⟩; simp only [Act.put, List.setIfInBounds_toArray, List.set_cons_zero, List.set_cons_succ]; go_big_quiet_on
  go_big_quiet_want; go_big_quiet_op; first | go_big_quiet_on | (refine ⟨_, fun _ _ => rfl, ?_⟩; go_big_quiet_on)
  go_big_quiet_want; go_big_quiet_op; first | go_big_quiet_on | (refine ⟨_, fun _ _ => rfl, ?_⟩; go_big_quiet_on)
  go_big_quiet_want; go_big_quiet_op; first | go_big_quiet_on | (refine ⟨_, fun _ _ => rfl, ?_⟩; go_big_quiet_on)
  go_big_quiet_want; go_big_quiet_op; first | go_big_quiet_on | (refine ⟨_, fun _ _ => rfl, ?_⟩; go_big_quiet_on)
  go_big_quiet_want; go_big_quiet_op; first | go_big_quiet_on | (refine ⟨_, fun _ _ => rfl, ?_⟩; go_big_quiet_on)
  go_big_quiet_want; go_big_quiet_op; first | go_big_quiet_on | (refine ⟨_, fun _ _ => rfl, ?_⟩; go_big_quiet_on)
  go_big_quiet_want; refine ⟨.bool false, fun W hW => (by simp [Oper.quietAt, Oper.quietUpon, go_sem]), ?_⟩; simp only [Act.put, List.setIfInBounds_toArray, List.set_cons_zero, List.set_cons_succ]; go_big_quiet_on
  go_big_quiet_want; go_big_quiet_op; first | go_big_quiet_on | (refine ⟨_, fun _ _ => rfl, ?_⟩; go_big_quiet_on)
  refine wpQuiet_nil ?_
  intro X hX
  have HX := Lib.hid hX
  clear HSP HIG2 HSG2 HSQ HIF4 HSF4 HIV5 HSV5 HIL HSL HIH HSH HIR HSR CH CA CB' CE hX
  simp only [Exit.then]
  go_step
  go_step
  go_step
  go_step
  go_step
  go_step
  go_cut [188] from 142 to 188 (fun s188 wx => Below U.heap.size U wx)
  case first =>
    have hm12 : P1.size ≤ maxLen := by unfold maxLen; omega
    have h8k : ¬ 8000 < s1.size := by omega
    have hcase : (0 ≤ x1 ∧ 1 ≤ y1 ∧ y1 ≤ 32 ∧ x1 + y1 ≤ 8 * (s1.size : Int) ∧ 0 ≤ n1 ∧ n1 < powI y1) ∨ (0 ≤ x1 ∧ 1 ≤ y1 ∧ y1 ≤ 32 ∧ x1 + y1 ≤ 8 * (s1.size : Int) ∧ 0 ≤ n1 ∧ powI y1 ≤ n1) ∨ (0 ≤ x1 ∧ 1 ≤ y1 ∧ y1 ≤ 32 ∧ x1 + y1 ≤ 8 * (s1.size : Int) ∧ n1 < 0) ∨ (0 ≤ x1 ∧ 1 ≤ y1 ∧ y1 ≤ 32 ∧ 8 * (s1.size : Int) < x1 + y1) ∨ (0 ≤ x1 ∧ 1 ≤ y1 ∧ 32 < y1) ∨ (0 ≤ x1 ∧ y1 < 1) ∨ (x1 < 0) := by omega
    have wadd : x1 ≤ 9000000000 := hx1.2
    rcases hcase with ⟨c1, c2, c3, c4, c5, c6⟩ | ⟨c1, c2, c3, c4, c5, c6⟩ | ⟨c1, c2, c3, c4, c5⟩ | ⟨c1, c2, c3, c4⟩ | ⟨c1, c2, c3⟩ | ⟨c1, c2⟩ | c1
    · obtain ⟨x, rfl⟩ := Int.eq_ofNat_of_zero_le c1
      obtain ⟨y, rfl⟩ := Int.eq_ofNat_of_zero_le (show 0 ≤ y1 by omega)
      have hh : hasB s1 (x : Int) (y : Int) = true := by
        unfold hasB fieldB
        rw [inB_yes (by omega) (by omega), inB_yes (by omega) (by omega)]
        simp
        omega
      have hin : x + y ≤ 8 * s1.size := by omega
      have hG := get_back h8k hh hin c5 c6
      have hPB := put_back2 h8k hh hin c5 c6
      rw [EP1.out] at hG hPB
      have HI1 := fun W => implGetBits_any P1 x y W hm12
      have HS1 := fun W => specGetBits_any s1 x y W hm1
      have HP1 := fun W => implPutBits_any P1 x y (getI s1 x y) W hm12
      rw [hG] at HI1
      rw [hPB] at HP1
      have e1 : (ByteArray.mk s1.data.toList.toArray) = s1 := by simp
      rw [e1] at HP1
      generalize getI s1 (x : Int) (y : Int) = G1 at HS1 HP1
      have hsh : wrap64 (2 ^ y) = powI (y : Int) := by
        have h1 := shl_pow (y : Int) (by omega) (by omega)
        have hm : min (y : Int).toNat 64 = y := by omega
        rw [hm, Int.one_mul] at h1
        exact (IntWalk.i64_left _).symm.trans h1
      generalize powI (y : Int) = p at *
      have HI1 := Lib.hid HI1
      have HS1 := Lib.hid HS1
      have HP1 := Lib.hid HP1
      clear hG hPB e1 hh
      go_wp2_with fail
      refine (HI1.out _).mono ?_
      rintro e Y1 ⟨rfl, h⟩
      have HY1 := Lib.hid (HX.out.trans (h.mono HX.out.size))
      clear h
      go_wp2_with fail
      refine (HS1.out _).mono ?_
      rintro e Y2 ⟨rfl, h⟩
      have HY2 := Lib.hid (HY1.out.trans (h.mono HY1.out.size))
      clear h
      go_wp2_with fail
      refine (HP1.out _).mono ?_
      rintro e Y ⟨rfl, h⟩
      have HY := Lib.hid (HY2.out.trans (h.mono HY2.out.size))
      clear h HX HY1 HY2 HI1 HS1 HP1 hsh c6
      go_wp2_with fail
      go_meet
      exact HY.out
    · obtain ⟨y, rfl⟩ := Int.eq_ofNat_of_zero_le (show 0 ≤ y1 by omega)
      have t6 : decide (n1 < powI (y : Int)) = false := decide_eq_false (by omega)
      have hsh : wrap64 (2 ^ y) = powI (y : Int) := by
        have h1 := shl_pow (y : Int) (by omega) (by omega)
        have hm : min (y : Int).toNat 64 = y := by omega
        rw [hm, Int.one_mul] at h1
        exact (IntWalk.i64_left _).symm.trans h1
      generalize powI (y : Int) = p at *
      obtain ⟨Y, eY⟩ : ∃ Y, X = Y := ⟨_, rfl⟩
      subst eY
      have HY := HX
      clear HX
      go_wp2_with fail
      go_meet
      exact HY.out
    · have t4 : decide (x1 + y1 ≤ 8 * (s1.size : Int)) = true := decide_eq_true c4
      have t5 : decide (0 ≤ n1) = false := decide_eq_false (by omega)
      go_wp2_with fail
      go_meet
      exact HX.out
    · have t4 : decide (x1 + y1 ≤ 8 * (s1.size : Int)) = false := decide_eq_false (by omega)
      go_wp2_with fail
      go_meet
      exact HX.out
    · have t3 : decide (y1 ≤ 32) = false := decide_eq_false (by omega)
      go_wp2_with fail
      go_meet
      exact HX.out
    · have t2 : decide (1 ≤ y1) = false := decide_eq_false (by omega)
      go_wp2_with fail
      go_meet
      exact HX.out
    · have t1 : decide (0 ≤ x1) = false := decide_eq_false (by omega)
      go_wp2_with fail
      go_meet
      exact HX.out
  case rest =>
    have HY := Lib.hid hcut
    clear hcut HX
    obtain ⟨f0, f1, f2⟩ := (CF _ HY.out).out
    obtain ⟨q0, q1⟩ := (CV _ HY.out).out
    have HSV := fun W => Lib.hid (specValueRight_any x3 y3 g3 k3 n3 W)
    rcases Bool.eq_false_or_eq_true (valB x3 y3 g3 k3 n3) with hv | hv
    · rw [hv] at HSV
      have hf := fieldB_of (valB_field hv)
      by_cases hc : x3 + y3 ≤ 8 * (s3.size : Int)
      · have hh : hasB s3 x3 y3 = true := by unfold hasB; rw [valB_field hv]; simp; omega
        have hvb := value_back (by omega) hv hh
        rw [EQ3.out] at hvb
        have HIB := fun W => Lib.hid (implFieldGet_any Q3 x3 y3 g3 W (by unfold maxLen; omega))
        rw [hvb] at HIB
        simp only [fdV, vlV] at HIB HSV
        clear hvb hh
        go_wp2_with fail
        refine (HSV _).out.mono ?_
        rintro e Z ⟨rfl, h⟩
        have HZ := Lib.hid (HY.out.trans (h.mono HY.out.size))
        clear h f0 f1 f2 q0 q1
        obtain ⟨f0, f1, f2⟩ := (CF _ HZ.out).out
        obtain ⟨q0, q1⟩ := (CV _ HZ.out).out
        go_wp2_with fail
        refine wp_region_quiet (C := fun W => Below U.heap.size U W) (by kernel_rfl) (by kernel_rfl) (HZ.out.drew) ?_
        dsimp only
        go_big_quiet_want; go_big_quiet_op; first | go_big_quiet_on | (refine ⟨_, fun _ _ => rfl, ?_⟩; go_big_quiet_on)
        go_big_quiet_want; refine ⟨.agg #[.int .i64 x3, .int .i64 y3, .bool g3], fun W hW => (by obtain ⟨e0, e1, e2⟩ := (CF W hW).out; simp [Oper.quietAt, Oper.quietUpon, go_sem, e0, e1, e2]), ?_⟩; simp only [Act.put, List.setIfInBounds_toArray, List.set_cons_zero, List.set_cons_succ]; go_big_quiet_on
        go_big_quiet_want; go_big_quiet_op; refine ⟨_, fun W hW => quietCall hW (HIB W).out, ?_⟩; go_big_quiet_on
        go_big_quiet_want; refine ⟨.agg #[.int .i64 k3, .int .i64 n3], fun W hW => (by obtain ⟨e0, e1⟩ := (CV W hW).out; simp [Oper.quietAt, Oper.quietUpon, go_sem, e0, e1]), ?_⟩; simp only [Act.put, List.setIfInBounds_toArray, List.set_cons_zero, List.set_cons_succ]; go_big_quiet_on
        go_big_quiet_want; refine ⟨.bool true, fun W hW => (by simp [Oper.quietAt, Oper.quietUpon, go_sem]), ?_⟩; simp only [Act.put, List.setIfInBounds_toArray, List.set_cons_zero, List.set_cons_succ]; go_big_quiet_on
        go_big_quiet_want; go_big_quiet_op; first | go_big_quiet_on | (refine ⟨_, fun _ _ => rfl, ?_⟩; go_big_quiet_on)
        refine wpQuiet_nil ?_
        intro V hV
        go_wp2_with fail
        go_ret
        exact ⟨rfl, TU.out.trans (hV.mono TU.out.size)⟩
      · have hh : hasB s3 x3 y3 = false := by unfold hasB; rw [valB_field hv]; simp; omega
        have e1 := fput_off2 (g := g3) (k := k3) (n := n3) (by omega) hh
        have e2 := EQ3.out
        rw [e1] at e2
        have e3 : (ByteArray.mk s3.data.toList.toArray) = s3 := by simp
        have e4 : Q3 = s3 := e2.symm.trans e3
        subst e4
        simp only [fdV, vlV] at HSV
        clear e1 e2 e3 hh EQ3
        go_wp2_with fail
        refine (HSV _).out.mono ?_
        rintro e Z ⟨rfl, h⟩
        have HZ := Lib.hid (HY.out.trans (h.mono HY.out.size))
        clear h f0 f1 f2 q0 q1
        obtain ⟨f0, f1, f2⟩ := (CF _ HZ.out).out
        obtain ⟨q0, q1⟩ := (CV _ HZ.out).out
        go_wp2
        go_ret
        exact ⟨by simp, TU.out.trans (HZ.out.mono TU.out.size)⟩
    · rw [hv] at HSV
      have e1 := fput_off (s := s3) (by omega) hv
      have e2 := EQ3.out
      rw [e1] at e2
      have e3 : (ByteArray.mk s3.data.toList.toArray) = s3 := by simp
      have e4 : Q3 = s3 := e2.symm.trans e3
      subst e4
      simp only [fdV, vlV] at HSV
      clear e1 e2 e3 EQ3
      go_wp2_with fail
      refine (HSV _).out.mono ?_
      rintro e Z ⟨rfl, h⟩
      have HZ := Lib.hid (HY.out.trans (h.mono HY.out.size))
      clear h f0 f1 f2 q0 q1
      go_wp2
      go_ret
      exact ⟨by simp, TU.out.trans (HZ.out.mono TU.out.size)⟩
end Go.Proofs.Ytigenkcamhenaaa
