/- Of drawn Names: a right Name comes back from its bytes, and the bytes from the Name that they are told to be; of two right ones that are unlike just one is less. For every two lists of bytes from which the inputs are drawn. -/
import Derived.Test.YtnfedciblgapmaaRows
import Derived.Test.YtnfedciblgapmaaNameBack
import Derived.Test.YtnfedciblgapmaaNameLess3
import Derived.Test.YtnfedciblgapmaaNameFrom3
import Derived.Test.YtnfedciblgapmaaDrawNames
import Derived.WalkKit
import Derived.ProofKit
import Derived.OpenShut
import Derived.ShutString
import Derived.ChangeOld
import Derived.Below
namespace Go.Proofs.Ytnfedciblgapmaa.fnName
open Go.ChangeShapes Go.WideShapes Go.ChangeAt Go.RowKit
open Go.ChangeMaps (open_string shut_string)
set_option linter.unusedVariables false

theorem own : ownKnob Try.prog.godebug = none := by kernel_rfl
theorem laidOut : laidOutB Try.prog = true := by kernel_rfl

/-- WHAT THE WALK IS TOLD OF A SLICE OF INTEGERS THAT CAME IN: it is nil; or it leads to a row of 'cap' cells, the numbers 'zs' (the first 'len' are its elements, the rest its spare room), each fitting its kind. -/
def IsRow (k : IntKind) (w : World) (a : Option Addr) (len cap : Nat) (zs : List Int) : Prop :=
  (a = none ∧ len = 0 ∧ cap = 0 ∧ zs = []) ∨
  ∃ x, a = some x ∧ len ≤ cap ∧ cap ≤ maxLen ∧ zs.length = cap ∧ (∀ i, i < zs.length → w.cell? (x.add i) = some (.int k (zs.getD i 0))) ∧ ∀ n ∈ zs, (Lit.int k n).wf = true

set_option maxRecDepth 100000 in
set_option maxHeartbeats 100000000 in
theorem walk (a0 : Option Addr) (len0 cap0 : Nat) (z0 : List Int) (a1 : Option Addr) (len1 cap1 : Nat) (z1 : List Int) (w : World) (w0 : IsRow .u8 w a0 len0 cap0 z0) (w1 : IsRow .u8 w a1 len1 cap1 z1) :
    Calls Try.prog 3 #[.slice a0 len0 cap0, .slice a1 len1 cap1] w fun e w' => e = .returned (.bool true) ∧ Below w.heap.size w w' := by
  obtain ⟨r0, b0⟩ := rowIn_mk w0
  obtain ⟨r1, b1⟩ := rowIn_mk w1
  clear w0 w1
  by_cases hbig : 1048576 < len0
  · have hd : decide (1048576 < (len0 : Int)) = true := by simp; omega
    go_enter Try.func3, Try.ntmps3
    go_wp2_with fail
    go_ret
    exact ⟨rfl, Below.refl _ _⟩
  have hd0 : decide (1048576 < (len0 : Int)) = false := by simp; omega
  by_cases hbig1 : 1048576 < len1
  · have hd : decide (1048576 < (len1 : Int)) = true := by simp; omega
    go_enter Try.func3, Try.ntmps3
    go_wp2_with fail
    go_ret
    exact ⟨rfl, Below.refl _ _⟩
  have hd1 : decide (1048576 < (len1 : Int)) = false := by simp; omega
  have R0 := Lib.hid r0
  have B0 := Lib.hid b0
  have R1 := Lib.hid r1
  have B1 := Lib.hid b1
  have l0 : len0 ≤ 1048576 := by omega
  have l1 : len1 ≤ 1048576 := by omega
  clear r0 b0 r1 b1 hbig hbig1
  have KP0 : ∀ U, Below w.heap.size w U → Hid (RowIn U a0 len0 z0 ∧ (0 < len0 → ∀ b o, a0 = some ⟨b, o, none⟩ → b < U.heap.size)) := fun U h => Lib.hid ⟨R0.out.kept h B0.out, fun q b o e => Nat.lt_of_lt_of_le (B0.out q b o e) h.size⟩
  have KP1 : ∀ U, Below w.heap.size w U → Hid (RowIn U a1 len1 z1 ∧ (0 < len1 → ∀ b o, a1 = some ⟨b, o, none⟩ → b < U.heap.size)) := fun U h => Lib.hid ⟨R1.out.kept h B1.out, fun q b o e => Nat.lt_of_lt_of_le (B1.out q b o e) h.size⟩
  have K0 := KP0 w (Below.refl _ _)
  go_enter Try.func3, Try.ntmps3
  go_wp2_with fail
  refine (drawNameBytes_any K0.out.1 l0 K0.out.2).mono ?_
  rintro e u1 ⟨n, rfl, h1⟩
  have t1 : Below w.heap.size w u1 := h1
  obtain ⟨tb, htb⟩ : ∃ tb, nmBytes n = tb := ⟨_, rfl⟩
  have HTB := Lib.hid htb
  have HIB := fun W => Lib.hid (implNameBytes_any n W)
  have HSB := fun W => Lib.hid (specNameBytes_any n W)
  have HIO := fun W => Lib.hid (implNameOk_any n W)
  have HSO := fun W => Lib.hid (specNameOk_any n W)
  rw [htb] at HIB HSB
  have HM1 : ∀ h : tb ≠ [], Hid (nameFromV ⟨tb.toArray⟩ = nmOutV n 0) := fun h => Lib.hid (by
    have hk := ok_of_bytes (n := n) (by rw [htb]; exact h)
    rw [← htb, hk.2]
    exact nm_back hk.1)
  have hts : tb.length ≤ 8 := htb ▸ nmBytes_len n
  generalize okB n = vn at *
  clear htb HTB
  obtain ⟨n0, n1, n2, n3, n4, n5, n6, n7⟩ := n
  unfold nmV at HIB HSB HIO HSO ⊢
  dsimp only at HIB HSB HIO HSO ⊢
  go_wp2_with fail
  refine (HIB _).out.mono ?_
  rintro e u2 ⟨rfl, h2⟩
  have t2 : Below w.heap.size w u2 := (t1.alloc t1.size _).trans (h2.mono (by have := t1.size; simp; omega))
  have hA2 : u2.heap[u1.heap.size]? = some (.cells #[.int .i64 n0, .int .i64 n1, .int .i64 n2, .int .i64 n3, .int .i64 n4, .int .i64 n5, .int .i64 n6, .bool n7] 24 (0, 0)) := (h2.block _ (by simp)).trans (heap_alloc_new u1 _)
  have zA2 : u1.heap.size < u2.heap.size := heap_lt hA2
  have K2 := KP1 u2 t2
  go_wp2_with fail
  refine (drawNameFrom_any K2.out.1 l1 K2.out.2).mono ?_
  rintro e u3 ⟨us, hus, rfl, h3⟩
  have t3 : Below w.heap.size w u3 := t2.trans (h3.mono t2.size)
  have hA3 := (h3.block _ zA2).trans hA2
  have zA3 : u1.heap.size < u3.heap.size := heap_lt hA3
  have hum : us.size ≤ maxLen := by unfold maxLen; omega
  obtain ⟨x, xc, hz⟩ : ∃ x c, nameFromV us = nmOutV x c := by
    unfold nameFromV
    split
    · exact ⟨_, _, rfl⟩
    split
    · exact ⟨_, _, rfl⟩
    split
    · exact ⟨_, _, rfl⟩
    · exact ⟨_, _, rfl⟩
  have HIF := fun W => Lib.hid (implNameFrom_any us W hum)
  have HSF := fun W => Lib.hid (specNameFrom_any us W hum)
  have HM2 : ∀ h : xc = 0, Hid (ByteArray.mk (nmBytes x).toArray = us) := fun h => Lib.hid ((congrArg (fun l : List UInt8 => ByteArray.mk l.toArray) (nm_fwd (by rw [hz, h]))).trans (mk_toList us))
  have HXB := fun W => Lib.hid (implNameBytes_any x W)
  obtain ⟨xs, hxs⟩ : ∃ xs, ByteArray.mk (nmBytes x).toArray = xs := ⟨_, rfl⟩
  rw [hxs] at HXB HM2
  clear hxs
  rw [hz] at HIF HSF
  clear hz
  obtain ⟨x0, x1, x2, x3, x4, x5, x6, x7⟩ := x
  unfold nmOutV at HIF HSF
  unfold nmV at HXB
  dsimp only at HIF HSF HXB
  go_wp2_with fail
  refine (HIF _).out.mono ?_
  rintro e u4 ⟨rfl, h4⟩
  have t4 : Below w.heap.size w u4 := t3.trans (h4.mono t3.size)
  have hA4 := (h4.block _ zA3).trans hA3
  have zA4 : u1.heap.size < u4.heap.size := heap_lt hA4
  have hA4' := (Below.heap_alloc u4 (.cells #[.int .i64 x0, .int .i64 x1, .int .i64 x2, .int .i64 x3, .int .i64 x4, .int .i64 x5, .int .i64 x6, .bool x7, .int .i64 xc] 29) _ zA4).trans hA4
  have t4' := t4.alloc t4.size (.cells #[.int .i64 x0, .int .i64 x1, .int .i64 x2, .int .i64 x3, .int .i64 x4, .int .i64 x5, .int .i64 x6, .bool x7, .int .i64 xc] 29)
  have K4 := KP1 (u4.alloc (.cells #[.int .i64 x0, .int .i64 x1, .int .i64 x2, .int .i64 x3, .int .i64 x4, .int .i64 x5, .int .i64 x6, .bool x7, .int .i64 xc] 29)) t4'
  go_wp2_with fail
  refine (drawNameLess_any K4.out.1 l1 K4.out.2).mono ?_
  rintro e u5 ⟨a, b, rfl, h5⟩
  have t5 : Below w.heap.size w u5 := t4'.trans (h5.mono t4'.size)
  have hA5 := (h5.block _ (by simp; omega)).trans hA4'
  have hB5 : u5.heap[u4.heap.size]? = some (.cells #[.int .i64 x0, .int .i64 x1, .int .i64 x2, .int .i64 x3, .int .i64 x4, .int .i64 x5, .int .i64 x6, .bool x7, .int .i64 xc] 29 (0, 0)) := (h5.block _ (by simp)).trans (heap_alloc_new u4 _)
  have HIL := fun W => Lib.hid (implNameLess_any a b W)
  have HSL := fun W => Lib.hid (specNameLess_any a b W)
  have HIM := fun W => Lib.hid (implNameLess_any b a W)
  have HOA := fun W => Lib.hid (specNameOk_any a W)
  have HOB := fun W => Lib.hid (specNameOk_any b W)
  have HM3 : ∀ (ha : okB a = true) (hb : okB b = true) (h : a ≠ b), Hid ((nmLessB a b != nmLessB b a) = true) := fun ha hb h => Lib.hid (less_one ha hb h)
  generalize nmLessB a b = vl at *
  generalize nmLessB b a = vm at *
  generalize okB a = va at *
  generalize okB b = vb at *
  obtain ⟨p0, p1, p2, p3, p4, p5, p6, p7⟩ := a
  obtain ⟨q0, q1, q2, q3, q4, q5, q6, q7⟩ := b
  unfold nmV at *
  dsimp only at *
  go_wp2_with fail
  have bU : Below w.heap.size w ((u5.alloc (.cells #[.int .i64 p0, .int .i64 p1, .int .i64 p2, .int .i64 p3, .int .i64 p4, .int .i64 p5, .int .i64 p6, .bool p7] 24)).alloc (.cells #[.int .i64 q0, .int .i64 q1, .int .i64 q2, .int .i64 q3, .int .i64 q4, .int .i64 q5, .int .i64 q6, .bool q7] 24)) := (t5.alloc t5.size _).alloc (by have := t5.size; simp; omega) _
  have zA5 : u1.heap.size < u5.heap.size := heap_lt hA5
  have zB5 : u4.heap.size < u5.heap.size := heap_lt hB5
  have hUA : ((u5.alloc (.cells #[.int .i64 p0, .int .i64 p1, .int .i64 p2, .int .i64 p3, .int .i64 p4, .int .i64 p5, .int .i64 p6, .bool p7] 24)).alloc (.cells #[.int .i64 q0, .int .i64 q1, .int .i64 q2, .int .i64 q3, .int .i64 q4, .int .i64 q5, .int .i64 q6, .bool q7] 24)).heap[u1.heap.size]? = some (.cells #[.int .i64 n0, .int .i64 n1, .int .i64 n2, .int .i64 n3, .int .i64 n4, .int .i64 n5, .int .i64 n6, .bool n7] 24 (0, 0)) := (Below.heap_alloc _ _ _ (by simp; omega)).trans ((Below.heap_alloc _ _ _ zA5).trans hA5)
  have hUB : ((u5.alloc (.cells #[.int .i64 p0, .int .i64 p1, .int .i64 p2, .int .i64 p3, .int .i64 p4, .int .i64 p5, .int .i64 p6, .bool p7] 24)).alloc (.cells #[.int .i64 q0, .int .i64 q1, .int .i64 q2, .int .i64 q3, .int .i64 q4, .int .i64 q5, .int .i64 q6, .bool q7] 24)).heap[u4.heap.size]? = some (.cells #[.int .i64 x0, .int .i64 x1, .int .i64 x2, .int .i64 x3, .int .i64 x4, .int .i64 x5, .int .i64 x6, .bool x7, .int .i64 xc] 29 (0, 0)) := (Below.heap_alloc _ _ _ (by simp; omega)).trans ((Below.heap_alloc _ _ _ zB5).trans hB5)
  have hUC : ((u5.alloc (.cells #[.int .i64 p0, .int .i64 p1, .int .i64 p2, .int .i64 p3, .int .i64 p4, .int .i64 p5, .int .i64 p6, .bool p7] 24)).alloc (.cells #[.int .i64 q0, .int .i64 q1, .int .i64 q2, .int .i64 q3, .int .i64 q4, .int .i64 q5, .int .i64 q6, .bool q7] 24)).heap[u5.heap.size]? = some (.cells #[.int .i64 p0, .int .i64 p1, .int .i64 p2, .int .i64 p3, .int .i64 p4, .int .i64 p5, .int .i64 p6, .bool p7] 24 (0, 0)) := (Below.heap_alloc _ _ _ (by simp)).trans (heap_alloc_new u5 _)
  have hUD : ((u5.alloc (.cells #[.int .i64 p0, .int .i64 p1, .int .i64 p2, .int .i64 p3, .int .i64 p4, .int .i64 p5, .int .i64 p6, .bool p7] 24)).alloc (.cells #[.int .i64 q0, .int .i64 q1, .int .i64 q2, .int .i64 q3, .int .i64 q4, .int .i64 q5, .int .i64 q6, .bool q7] 24)).heap[u5.heap.size + 1]? = some (.cells #[.int .i64 q0, .int .i64 q1, .int .i64 q2, .int .i64 q3, .int .i64 q4, .int .i64 q5, .int .i64 q6, .bool q7] 24 (0, 0)) := heap_next u5 _ _
  generalize ((u5.alloc (.cells #[.int .i64 p0, .int .i64 p1, .int .i64 p2, .int .i64 p3, .int .i64 p4, .int .i64 p5, .int .i64 p6, .bool p7] 24)).alloc (.cells #[.int .i64 q0, .int .i64 q1, .int .i64 q2, .int .i64 q3, .int .i64 q4, .int .i64 q5, .int .i64 q6, .bool q7] 24)) = U at *
  have lA : u1.heap.size < U.heap.size := heap_lt hUA
  have lB : u4.heap.size < U.heap.size := heap_lt hUB
  have lC : u5.heap.size < U.heap.size := heap_lt hUC
  have lD : u5.heap.size + 1 < U.heap.size := heap_lt hUD
  have cn0 := cell_of_row U u1.heap.size 0 _ _ (0, 0) hUA
  have cn1 := cell_of_row U u1.heap.size 1 _ _ (0, 0) hUA
  have cn2 := cell_of_row U u1.heap.size 2 _ _ (0, 0) hUA
  have cn3 := cell_of_row U u1.heap.size 3 _ _ (0, 0) hUA
  have cn4 := cell_of_row U u1.heap.size 4 _ _ (0, 0) hUA
  have cn5 := cell_of_row U u1.heap.size 5 _ _ (0, 0) hUA
  have cn6 := cell_of_row U u1.heap.size 6 _ _ (0, 0) hUA
  have cn7 := cell_of_row U u1.heap.size 7 _ _ (0, 0) hUA
  simp only [List.getElem?_toArray, List.getElem?_cons_zero, List.getElem?_cons_succ] at cn0 cn1 cn2 cn3 cn4 cn5 cn6 cn7
  have cx0 := cell_of_row U u4.heap.size 0 _ _ (0, 0) hUB
  have cx1 := cell_of_row U u4.heap.size 1 _ _ (0, 0) hUB
  have cx2 := cell_of_row U u4.heap.size 2 _ _ (0, 0) hUB
  have cx3 := cell_of_row U u4.heap.size 3 _ _ (0, 0) hUB
  have cx4 := cell_of_row U u4.heap.size 4 _ _ (0, 0) hUB
  have cx5 := cell_of_row U u4.heap.size 5 _ _ (0, 0) hUB
  have cx6 := cell_of_row U u4.heap.size 6 _ _ (0, 0) hUB
  have cx7 := cell_of_row U u4.heap.size 7 _ _ (0, 0) hUB
  have cx8 := cell_of_row U u4.heap.size 8 _ _ (0, 0) hUB
  simp only [List.getElem?_toArray, List.getElem?_cons_zero, List.getElem?_cons_succ] at cx0 cx1 cx2 cx3 cx4 cx5 cx6 cx7 cx8
  have cp0 := cell_of_row U u5.heap.size 0 _ _ (0, 0) hUC
  have cp1 := cell_of_row U u5.heap.size 1 _ _ (0, 0) hUC
  have cp2 := cell_of_row U u5.heap.size 2 _ _ (0, 0) hUC
  have cp3 := cell_of_row U u5.heap.size 3 _ _ (0, 0) hUC
  have cp4 := cell_of_row U u5.heap.size 4 _ _ (0, 0) hUC
  have cp5 := cell_of_row U u5.heap.size 5 _ _ (0, 0) hUC
  have cp6 := cell_of_row U u5.heap.size 6 _ _ (0, 0) hUC
  have cp7 := cell_of_row U u5.heap.size 7 _ _ (0, 0) hUC
  simp only [List.getElem?_toArray, List.getElem?_cons_zero, List.getElem?_cons_succ] at cp0 cp1 cp2 cp3 cp4 cp5 cp6 cp7
  have cq0 := cell_of_row U (u5.heap.size + 1) 0 _ _ (0, 0) hUD
  have cq1 := cell_of_row U (u5.heap.size + 1) 1 _ _ (0, 0) hUD
  have cq2 := cell_of_row U (u5.heap.size + 1) 2 _ _ (0, 0) hUD
  have cq3 := cell_of_row U (u5.heap.size + 1) 3 _ _ (0, 0) hUD
  have cq4 := cell_of_row U (u5.heap.size + 1) 4 _ _ (0, 0) hUD
  have cq5 := cell_of_row U (u5.heap.size + 1) 5 _ _ (0, 0) hUD
  have cq6 := cell_of_row U (u5.heap.size + 1) 6 _ _ (0, 0) hUD
  have cq7 := cell_of_row U (u5.heap.size + 1) 7 _ _ (0, 0) hUD
  simp only [List.getElem?_toArray, List.getElem?_cons_zero, List.getElem?_cons_succ] at cq0 cq1 cq2 cq3 cq4 cq5 cq6 cq7
  have HBU := Lib.hid bU
  clear hA2 hA3 hA4 hA4' hA5 hB5 zA2 zA3 zA4 zA5 zB5 hUA hUB hUC hUD t1 t2 t3 t4 t4' t5 h1 h2 h3 h4 h5 K0 K2 K4 KP0 KP1 R0 B0 R1 B1 HIB HIF bU
  refine wp_region_quiet (C := fun W => Below U.heap.size U W) (by kernel_rfl) (by kernel_rfl) ((Below.refl _ _).drew) ?_
  dsimp only
  go_big_quiet_want; go_big_quiet_op; first | go_big_quiet_on | (refine ⟨_, fun _ _ => rfl, ?_⟩; go_big_quiet_on)
  go_big_quiet_want; refine ⟨.agg #[.int .i64 n0, .int .i64 n1, .int .i64 n2, .int .i64 n3, .int .i64 n4, .int .i64 n5, .int .i64 n6, .bool n7], fun W hW => (by have y0 := (hW.cell (p := ⟨u1.heap.size, 0, none⟩) lA).trans cn0; have y1 := (hW.cell (p := ⟨u1.heap.size, 1, none⟩) lA).trans cn1; have y2 := (hW.cell (p := ⟨u1.heap.size, 2, none⟩) lA).trans cn2; have y3 := (hW.cell (p := ⟨u1.heap.size, 3, none⟩) lA).trans cn3; have y4 := (hW.cell (p := ⟨u1.heap.size, 4, none⟩) lA).trans cn4; have y5 := (hW.cell (p := ⟨u1.heap.size, 5, none⟩) lA).trans cn5; have y6 := (hW.cell (p := ⟨u1.heap.size, 6, none⟩) lA).trans cn6; have y7 := (hW.cell (p := ⟨u1.heap.size, 7, none⟩) lA).trans cn7; simp [Oper.quietAt, Oper.quietUpon, go_sem, y0, y1, y2, y3, y4, y5, y6, y7]), ?_⟩; simp only [Act.put, List.setIfInBounds_toArray, List.set_cons_zero, List.set_cons_succ]; go_big_quiet_on
  go_big_quiet_want; go_big_quiet_op; refine ⟨_, fun W hW => quietCall hW (HSB W).out, ?_⟩; go_big_quiet_on
  go_big_quiet_want; go_big_quiet_op; first | go_big_quiet_on | (refine ⟨_, fun _ _ => rfl, ?_⟩; go_big_quiet_on)
  go_big_quiet_want; go_big_quiet_op; first | go_big_quiet_on | (refine ⟨_, fun _ _ => rfl, ?_⟩; go_big_quiet_on)
  first | go_big_quiet_skip | (go_big_quiet_want; refine ⟨.agg #[.int .i64 x0, .int .i64 x1, .int .i64 x2, .int .i64 x3, .int .i64 x4, .int .i64 x5, .int .i64 x6, .bool x7, .int .i64 xc], fun W hW => (by have y0 := (hW.cell (p := ⟨u4.heap.size, 0, none⟩) lB).trans cx0; have y1 := (hW.cell (p := ⟨u4.heap.size, 1, none⟩) lB).trans cx1; have y2 := (hW.cell (p := ⟨u4.heap.size, 2, none⟩) lB).trans cx2; have y3 := (hW.cell (p := ⟨u4.heap.size, 3, none⟩) lB).trans cx3; have y4 := (hW.cell (p := ⟨u4.heap.size, 4, none⟩) lB).trans cx4; have y5 := (hW.cell (p := ⟨u4.heap.size, 5, none⟩) lB).trans cx5; have y6 := (hW.cell (p := ⟨u4.heap.size, 6, none⟩) lB).trans cx6; have y7 := (hW.cell (p := ⟨u4.heap.size, 7, none⟩) lB).trans cx7; have y8 := (hW.cell (p := ⟨u4.heap.size, 8, none⟩) lB).trans cx8; simp [Oper.quietAt, Oper.quietUpon, go_sem, y0, y1, y2, y3, y4, y5, y6, y7, y8]), ?_⟩; simp only [Act.put, List.setIfInBounds_toArray, List.set_cons_zero, List.set_cons_succ]; go_big_quiet_on)
  first | go_big_quiet_skip | (go_big_quiet_want; go_big_quiet_op; first | go_big_quiet_on | (refine ⟨_, fun _ _ => rfl, ?_⟩; go_big_quiet_on))
  first | go_big_quiet_skip | (go_big_quiet_want; go_big_quiet_op; refine ⟨_, fun W hW => quietCall hW (HSF W).out, ?_⟩; go_big_quiet_on)
  first | go_big_quiet_skip | (go_big_quiet_want; go_big_quiet_op; first | go_big_quiet_on | (refine ⟨_, fun _ _ => rfl, ?_⟩; go_big_quiet_on))
  go_big_quiet_want; go_big_quiet_op; first | go_big_quiet_on | (refine ⟨_, fun _ _ => rfl, ?_⟩; go_big_quiet_on)
  go_big_quiet_want; go_big_quiet_op; first | go_big_quiet_on | (refine ⟨_, fun _ _ => rfl, ?_⟩; go_big_quiet_on)
  first | go_big_quiet_skip | (go_big_quiet_want; refine ⟨.agg #[.int .i64 p0, .int .i64 p1, .int .i64 p2, .int .i64 p3, .int .i64 p4, .int .i64 p5, .int .i64 p6, .bool p7], fun W hW => (by have y0 := (hW.cell (p := ⟨u5.heap.size, 0, none⟩) lC).trans cp0; have y1 := (hW.cell (p := ⟨u5.heap.size, 1, none⟩) lC).trans cp1; have y2 := (hW.cell (p := ⟨u5.heap.size, 2, none⟩) lC).trans cp2; have y3 := (hW.cell (p := ⟨u5.heap.size, 3, none⟩) lC).trans cp3; have y4 := (hW.cell (p := ⟨u5.heap.size, 4, none⟩) lC).trans cp4; have y5 := (hW.cell (p := ⟨u5.heap.size, 5, none⟩) lC).trans cp5; have y6 := (hW.cell (p := ⟨u5.heap.size, 6, none⟩) lC).trans cp6; have y7 := (hW.cell (p := ⟨u5.heap.size, 7, none⟩) lC).trans cp7; simp [Oper.quietAt, Oper.quietUpon, go_sem, y0, y1, y2, y3, y4, y5, y6, y7]), ?_⟩; simp only [Act.put, List.setIfInBounds_toArray, List.set_cons_zero, List.set_cons_succ]; go_big_quiet_on)
  first | go_big_quiet_skip | (go_big_quiet_want; refine ⟨.agg #[.int .i64 q0, .int .i64 q1, .int .i64 q2, .int .i64 q3, .int .i64 q4, .int .i64 q5, .int .i64 q6, .bool q7], fun W hW => (by have y0 := (hW.cell (p := ⟨u5.heap.size + 1, 0, none⟩) lD).trans cq0; have y1 := (hW.cell (p := ⟨u5.heap.size + 1, 1, none⟩) lD).trans cq1; have y2 := (hW.cell (p := ⟨u5.heap.size + 1, 2, none⟩) lD).trans cq2; have y3 := (hW.cell (p := ⟨u5.heap.size + 1, 3, none⟩) lD).trans cq3; have y4 := (hW.cell (p := ⟨u5.heap.size + 1, 4, none⟩) lD).trans cq4; have y5 := (hW.cell (p := ⟨u5.heap.size + 1, 5, none⟩) lD).trans cq5; have y6 := (hW.cell (p := ⟨u5.heap.size + 1, 6, none⟩) lD).trans cq6; have y7 := (hW.cell (p := ⟨u5.heap.size + 1, 7, none⟩) lD).trans cq7; simp [Oper.quietAt, Oper.quietUpon, go_sem, y0, y1, y2, y3, y4, y5, y6, y7]), ?_⟩; simp only [Act.put, List.setIfInBounds_toArray, List.set_cons_zero, List.set_cons_succ]; go_big_quiet_on)
  first | go_big_quiet_skip | (go_big_quiet_want; go_big_quiet_op; refine ⟨_, fun W hW => quietCall hW (HIL W).out, ?_⟩; go_big_quiet_on)
  first | go_big_quiet_skip | (go_big_quiet_want; refine ⟨.agg #[.int .i64 p0, .int .i64 p1, .int .i64 p2, .int .i64 p3, .int .i64 p4, .int .i64 p5, .int .i64 p6, .bool p7], fun W hW => (by have y0 := (hW.cell (p := ⟨u5.heap.size, 0, none⟩) lC).trans cp0; have y1 := (hW.cell (p := ⟨u5.heap.size, 1, none⟩) lC).trans cp1; have y2 := (hW.cell (p := ⟨u5.heap.size, 2, none⟩) lC).trans cp2; have y3 := (hW.cell (p := ⟨u5.heap.size, 3, none⟩) lC).trans cp3; have y4 := (hW.cell (p := ⟨u5.heap.size, 4, none⟩) lC).trans cp4; have y5 := (hW.cell (p := ⟨u5.heap.size, 5, none⟩) lC).trans cp5; have y6 := (hW.cell (p := ⟨u5.heap.size, 6, none⟩) lC).trans cp6; have y7 := (hW.cell (p := ⟨u5.heap.size, 7, none⟩) lC).trans cp7; simp [Oper.quietAt, Oper.quietUpon, go_sem, y0, y1, y2, y3, y4, y5, y6, y7]), ?_⟩; simp only [Act.put, List.setIfInBounds_toArray, List.set_cons_zero, List.set_cons_succ]; go_big_quiet_on)
  first | go_big_quiet_skip | (go_big_quiet_want; refine ⟨.agg #[.int .i64 q0, .int .i64 q1, .int .i64 q2, .int .i64 q3, .int .i64 q4, .int .i64 q5, .int .i64 q6, .bool q7], fun W hW => (by have y0 := (hW.cell (p := ⟨u5.heap.size + 1, 0, none⟩) lD).trans cq0; have y1 := (hW.cell (p := ⟨u5.heap.size + 1, 1, none⟩) lD).trans cq1; have y2 := (hW.cell (p := ⟨u5.heap.size + 1, 2, none⟩) lD).trans cq2; have y3 := (hW.cell (p := ⟨u5.heap.size + 1, 3, none⟩) lD).trans cq3; have y4 := (hW.cell (p := ⟨u5.heap.size + 1, 4, none⟩) lD).trans cq4; have y5 := (hW.cell (p := ⟨u5.heap.size + 1, 5, none⟩) lD).trans cq5; have y6 := (hW.cell (p := ⟨u5.heap.size + 1, 6, none⟩) lD).trans cq6; have y7 := (hW.cell (p := ⟨u5.heap.size + 1, 7, none⟩) lD).trans cq7; simp [Oper.quietAt, Oper.quietUpon, go_sem, y0, y1, y2, y3, y4, y5, y6, y7]), ?_⟩; simp only [Act.put, List.setIfInBounds_toArray, List.set_cons_zero, List.set_cons_succ]; go_big_quiet_on)
  first | go_big_quiet_skip | (go_big_quiet_want; go_big_quiet_op; refine ⟨_, fun W hW => quietCall hW (HSL W).out, ?_⟩; go_big_quiet_on)
  first | go_big_quiet_skip | (go_big_quiet_want; go_big_quiet_op; first | go_big_quiet_on | (refine ⟨_, fun _ _ => rfl, ?_⟩; go_big_quiet_on))
  go_big_quiet_want; go_big_quiet_op; first | go_big_quiet_on | (refine ⟨_, fun _ _ => rfl, ?_⟩; go_big_quiet_on)
  go_big_quiet_want; go_big_quiet_op; first | go_big_quiet_on | (refine ⟨_, fun _ _ => rfl, ?_⟩; go_big_quiet_on)
  first | go_big_quiet_skip | (go_big_quiet_want; refine ⟨.agg #[.int .i64 n0, .int .i64 n1, .int .i64 n2, .int .i64 n3, .int .i64 n4, .int .i64 n5, .int .i64 n6, .bool n7], fun W hW => (by have y0 := (hW.cell (p := ⟨u1.heap.size, 0, none⟩) lA).trans cn0; have y1 := (hW.cell (p := ⟨u1.heap.size, 1, none⟩) lA).trans cn1; have y2 := (hW.cell (p := ⟨u1.heap.size, 2, none⟩) lA).trans cn2; have y3 := (hW.cell (p := ⟨u1.heap.size, 3, none⟩) lA).trans cn3; have y4 := (hW.cell (p := ⟨u1.heap.size, 4, none⟩) lA).trans cn4; have y5 := (hW.cell (p := ⟨u1.heap.size, 5, none⟩) lA).trans cn5; have y6 := (hW.cell (p := ⟨u1.heap.size, 6, none⟩) lA).trans cn6; have y7 := (hW.cell (p := ⟨u1.heap.size, 7, none⟩) lA).trans cn7; simp [Oper.quietAt, Oper.quietUpon, go_sem, y0, y1, y2, y3, y4, y5, y6, y7]), ?_⟩; simp only [Act.put, List.setIfInBounds_toArray, List.set_cons_zero, List.set_cons_succ]; go_big_quiet_on)
  first | go_big_quiet_skip | (go_big_quiet_want; go_big_quiet_op; refine ⟨_, fun W hW => quietCall hW (HIO W).out, ?_⟩; go_big_quiet_on)
  first | go_big_quiet_skip | (go_big_quiet_want; refine ⟨.agg #[.int .i64 n0, .int .i64 n1, .int .i64 n2, .int .i64 n3, .int .i64 n4, .int .i64 n5, .int .i64 n6, .bool n7], fun W hW => (by have y0 := (hW.cell (p := ⟨u1.heap.size, 0, none⟩) lA).trans cn0; have y1 := (hW.cell (p := ⟨u1.heap.size, 1, none⟩) lA).trans cn1; have y2 := (hW.cell (p := ⟨u1.heap.size, 2, none⟩) lA).trans cn2; have y3 := (hW.cell (p := ⟨u1.heap.size, 3, none⟩) lA).trans cn3; have y4 := (hW.cell (p := ⟨u1.heap.size, 4, none⟩) lA).trans cn4; have y5 := (hW.cell (p := ⟨u1.heap.size, 5, none⟩) lA).trans cn5; have y6 := (hW.cell (p := ⟨u1.heap.size, 6, none⟩) lA).trans cn6; have y7 := (hW.cell (p := ⟨u1.heap.size, 7, none⟩) lA).trans cn7; simp [Oper.quietAt, Oper.quietUpon, go_sem, y0, y1, y2, y3, y4, y5, y6, y7]), ?_⟩; simp only [Act.put, List.setIfInBounds_toArray, List.set_cons_zero, List.set_cons_succ]; go_big_quiet_on)
  first | go_big_quiet_skip | (go_big_quiet_want; go_big_quiet_op; refine ⟨_, fun W hW => quietCall hW (HSO W).out, ?_⟩; go_big_quiet_on)
  first | go_big_quiet_skip | (go_big_quiet_want; go_big_quiet_op; first | go_big_quiet_on | (refine ⟨_, fun _ _ => rfl, ?_⟩; go_big_quiet_on))
  go_big_quiet_want; go_big_quiet_op; first | go_big_quiet_on | (refine ⟨_, fun _ _ => rfl, ?_⟩; go_big_quiet_on)
  refine wpQuiet_nil ?_
  intro X hX
  clear HSB HSF HSL HIO HSO
  go_wp2_with fail
  go_cut [78] from 58 to 78 (fun s78 wx => s78 = .bool false ∧ Below U.heap.size U wx)
  case first =>
    by_cases cz : xc = 0
    · have dz : (xc == 0) = true := beq_iff_eq.2 cz
      have HX2 := fun W => Lib.hid (HXB W).out
      rw [(HM2 cz).out] at HX2
      clear cz HXB
      rcases tb with _ | ⟨tx, ts⟩
      · skip
        refine wp_region_quiet (C := fun W => Below U.heap.size U W) (by kernel_rfl) (by kernel_rfl) (hX.drew) ?_
        dsimp only
        go_big_quiet_want; go_big_quiet_op; first | go_big_quiet_on | (refine ⟨_, fun _ _ => rfl, ?_⟩; go_big_quiet_on)
        go_big_quiet_want; go_big_quiet_op; first | go_big_quiet_on | (refine ⟨_, fun _ _ => rfl, ?_⟩; go_big_quiet_on)
        go_big_quiet_want; go_big_quiet_op; first | go_big_quiet_on | (refine ⟨_, fun _ _ => rfl, ?_⟩; go_big_quiet_on)
        first | go_big_quiet_skip | (go_big_quiet_want; go_big_quiet_op; first | go_big_quiet_on | (refine ⟨_, fun _ _ => rfl, ?_⟩; go_big_quiet_on))
        first | go_big_quiet_skip | (go_big_quiet_want; go_big_quiet_op; refine ⟨_, fun W hW => quietCall hW (HX2 W).out, ?_⟩; go_big_quiet_on)
        first | go_big_quiet_skip | (go_big_quiet_want; refine ⟨.agg #[.int .i64 n0, .int .i64 n1, .int .i64 n2, .int .i64 n3, .int .i64 n4, .int .i64 n5, .int .i64 n6, .bool n7], fun W hW => (by have y0 := (hW.cell (p := ⟨u1.heap.size, 0, none⟩) lA).trans cn0; have y1 := (hW.cell (p := ⟨u1.heap.size, 1, none⟩) lA).trans cn1; have y2 := (hW.cell (p := ⟨u1.heap.size, 2, none⟩) lA).trans cn2; have y3 := (hW.cell (p := ⟨u1.heap.size, 3, none⟩) lA).trans cn3; have y4 := (hW.cell (p := ⟨u1.heap.size, 4, none⟩) lA).trans cn4; have y5 := (hW.cell (p := ⟨u1.heap.size, 5, none⟩) lA).trans cn5; have y6 := (hW.cell (p := ⟨u1.heap.size, 6, none⟩) lA).trans cn6; have y7 := (hW.cell (p := ⟨u1.heap.size, 7, none⟩) lA).trans cn7; simp [Oper.quietAt, Oper.quietUpon, go_sem, y0, y1, y2, y3, y4, y5, y6, y7]), ?_⟩; simp only [Act.put, List.setIfInBounds_toArray, List.set_cons_zero, List.set_cons_succ]; go_big_quiet_on)
        first | go_big_quiet_skip | (go_big_quiet_want; go_big_quiet_op; first | go_big_quiet_on | (refine ⟨_, fun _ _ => rfl, ?_⟩; go_big_quiet_on))
        first | go_big_quiet_skip | (go_big_quiet_want; go_big_quiet_op; first | go_big_quiet_on | (refine ⟨_, fun _ _ => rfl, ?_⟩; go_big_quiet_on))
        go_big_quiet_want; go_big_quiet_op; first | go_big_quiet_on | (refine ⟨_, fun _ _ => rfl, ?_⟩; go_big_quiet_on)
        go_big_quiet_want; go_big_quiet_op; first | go_big_quiet_on | (refine ⟨_, fun _ _ => rfl, ?_⟩; go_big_quiet_on)
        first | go_big_quiet_skip | (go_big_quiet_want; go_big_quiet_op; first | go_big_quiet_on | (refine ⟨_, fun _ _ => rfl, ?_⟩; go_big_quiet_on))
        first | go_big_quiet_skip | (go_big_quiet_want; refine ⟨.int .i64 xc, fun W hW => (by have y8 := (hW.cell (p := ⟨u4.heap.size, 8, none⟩) lB).trans cx8; simp [Oper.quietAt, Oper.quietUpon, go_sem, y8]), ?_⟩; simp only [Act.put, List.setIfInBounds_toArray, List.set_cons_zero, List.set_cons_succ]; go_big_quiet_on)
        first | go_big_quiet_skip | (go_big_quiet_want; go_big_quiet_op; first | go_big_quiet_on | (refine ⟨_, fun _ _ => rfl, ?_⟩; go_big_quiet_on))
        first | go_big_quiet_skip | (go_big_quiet_want; go_big_quiet_op; first | go_big_quiet_on | (refine ⟨_, fun _ _ => rfl, ?_⟩; go_big_quiet_on))
        first | go_big_quiet_skip | (go_big_quiet_want; go_big_quiet_op; first | go_big_quiet_on | (refine ⟨_, fun _ _ => rfl, ?_⟩; go_big_quiet_on))
        first | go_big_quiet_skip | (go_big_quiet_want; refine ⟨.agg #[.int .i64 x0, .int .i64 x1, .int .i64 x2, .int .i64 x3, .int .i64 x4, .int .i64 x5, .int .i64 x6, .bool x7], fun W hW => (by have y0 := (hW.cell (p := ⟨u4.heap.size, 0, none⟩) lB).trans cx0; have y1 := (hW.cell (p := ⟨u4.heap.size, 1, none⟩) lB).trans cx1; have y2 := (hW.cell (p := ⟨u4.heap.size, 2, none⟩) lB).trans cx2; have y3 := (hW.cell (p := ⟨u4.heap.size, 3, none⟩) lB).trans cx3; have y4 := (hW.cell (p := ⟨u4.heap.size, 4, none⟩) lB).trans cx4; have y5 := (hW.cell (p := ⟨u4.heap.size, 5, none⟩) lB).trans cx5; have y6 := (hW.cell (p := ⟨u4.heap.size, 6, none⟩) lB).trans cx6; have y7 := (hW.cell (p := ⟨u4.heap.size, 7, none⟩) lB).trans cx7; simp [Oper.quietAt, Oper.quietUpon, go_sem, y0, y1, y2, y3, y4, y5, y6, y7]), ?_⟩; simp only [Act.put, List.setIfInBounds_toArray, List.set_cons_zero, List.set_cons_succ]; go_big_quiet_on)
        first | go_big_quiet_skip | (go_big_quiet_want; go_big_quiet_op; refine ⟨_, fun W hW => quietCall hW (HX2 W).out, ?_⟩; go_big_quiet_on)
        first | go_big_quiet_skip | (go_big_quiet_want; go_big_quiet_op; first | go_big_quiet_on | (refine ⟨_, fun _ _ => rfl, ?_⟩; go_big_quiet_on))
        first | go_big_quiet_skip | (go_big_quiet_want; go_big_quiet_op; first | go_big_quiet_on | (refine ⟨_, fun _ _ => rfl, ?_⟩; go_big_quiet_on))
        first | go_big_quiet_skip | (go_big_quiet_want; go_big_quiet_op; first | go_big_quiet_on | (refine ⟨_, fun _ _ => rfl, ?_⟩; go_big_quiet_on))
        go_big_quiet_want; go_big_quiet_op; first | go_big_quiet_on | (refine ⟨_, fun _ _ => rfl, ?_⟩; go_big_quiet_on)
        refine wpQuiet_nil ?_
        intro Y hY
        go_wp2_with fail
        go_meet
        exact ⟨rfl, hY⟩
      · have HI3 := fun W => Lib.hid (implNameFrom_any ⟨(tx :: ts).toArray⟩ W (by simp [ByteArray.size, maxLen] at hts ⊢; omega))
        rw [(HM1 (by simp)).out] at HI3
        unfold nmOutV at HI3
        dsimp only at HI3
        refine wp_region_quiet (C := fun W => Below U.heap.size U W) (by kernel_rfl) (by kernel_rfl) (hX.drew) ?_
        dsimp only
        go_big_quiet_want; go_big_quiet_op; first | go_big_quiet_on | (refine ⟨_, fun _ _ => rfl, ?_⟩; go_big_quiet_on)
        go_big_quiet_want; go_big_quiet_op; first | go_big_quiet_on | (refine ⟨_, fun _ _ => rfl, ?_⟩; go_big_quiet_on)
        go_big_quiet_want; go_big_quiet_op; first | go_big_quiet_on | (refine ⟨_, fun _ _ => rfl, ?_⟩; go_big_quiet_on)
        first | go_big_quiet_skip | (go_big_quiet_want; go_big_quiet_op; first | go_big_quiet_on | (refine ⟨_, fun _ _ => rfl, ?_⟩; go_big_quiet_on))
        first | go_big_quiet_skip | (go_big_quiet_want; go_big_quiet_op; refine ⟨_, fun W hW => quietCall hW (HI3 W).out, ?_⟩; go_big_quiet_on)
        first | go_big_quiet_skip | (go_big_quiet_want; refine ⟨.agg #[.int .i64 n0, .int .i64 n1, .int .i64 n2, .int .i64 n3, .int .i64 n4, .int .i64 n5, .int .i64 n6, .bool n7], fun W hW => (by have y0 := (hW.cell (p := ⟨u1.heap.size, 0, none⟩) lA).trans cn0; have y1 := (hW.cell (p := ⟨u1.heap.size, 1, none⟩) lA).trans cn1; have y2 := (hW.cell (p := ⟨u1.heap.size, 2, none⟩) lA).trans cn2; have y3 := (hW.cell (p := ⟨u1.heap.size, 3, none⟩) lA).trans cn3; have y4 := (hW.cell (p := ⟨u1.heap.size, 4, none⟩) lA).trans cn4; have y5 := (hW.cell (p := ⟨u1.heap.size, 5, none⟩) lA).trans cn5; have y6 := (hW.cell (p := ⟨u1.heap.size, 6, none⟩) lA).trans cn6; have y7 := (hW.cell (p := ⟨u1.heap.size, 7, none⟩) lA).trans cn7; simp [Oper.quietAt, Oper.quietUpon, go_sem, y0, y1, y2, y3, y4, y5, y6, y7]), ?_⟩; simp only [Act.put, List.setIfInBounds_toArray, List.set_cons_zero, List.set_cons_succ]; go_big_quiet_on)
        first | go_big_quiet_skip | (go_big_quiet_want; go_big_quiet_op; first | go_big_quiet_on | (refine ⟨_, fun _ _ => rfl, ?_⟩; go_big_quiet_on))
        first | go_big_quiet_skip | (go_big_quiet_want; go_big_quiet_op; first | go_big_quiet_on | (refine ⟨_, fun _ _ => rfl, ?_⟩; go_big_quiet_on))
        go_big_quiet_want; go_big_quiet_op; first | go_big_quiet_on | (refine ⟨_, fun _ _ => rfl, ?_⟩; go_big_quiet_on)
        go_big_quiet_want; go_big_quiet_op; first | go_big_quiet_on | (refine ⟨_, fun _ _ => rfl, ?_⟩; go_big_quiet_on)
        first | go_big_quiet_skip | (go_big_quiet_want; go_big_quiet_op; first | go_big_quiet_on | (refine ⟨_, fun _ _ => rfl, ?_⟩; go_big_quiet_on))
        first | go_big_quiet_skip | (go_big_quiet_want; refine ⟨.int .i64 xc, fun W hW => (by have y8 := (hW.cell (p := ⟨u4.heap.size, 8, none⟩) lB).trans cx8; simp [Oper.quietAt, Oper.quietUpon, go_sem, y8]), ?_⟩; simp only [Act.put, List.setIfInBounds_toArray, List.set_cons_zero, List.set_cons_succ]; go_big_quiet_on)
        first | go_big_quiet_skip | (go_big_quiet_want; go_big_quiet_op; first | go_big_quiet_on | (refine ⟨_, fun _ _ => rfl, ?_⟩; go_big_quiet_on))
        first | go_big_quiet_skip | (go_big_quiet_want; go_big_quiet_op; first | go_big_quiet_on | (refine ⟨_, fun _ _ => rfl, ?_⟩; go_big_quiet_on))
        first | go_big_quiet_skip | (go_big_quiet_want; go_big_quiet_op; first | go_big_quiet_on | (refine ⟨_, fun _ _ => rfl, ?_⟩; go_big_quiet_on))
        first | go_big_quiet_skip | (go_big_quiet_want; refine ⟨.agg #[.int .i64 x0, .int .i64 x1, .int .i64 x2, .int .i64 x3, .int .i64 x4, .int .i64 x5, .int .i64 x6, .bool x7], fun W hW => (by have y0 := (hW.cell (p := ⟨u4.heap.size, 0, none⟩) lB).trans cx0; have y1 := (hW.cell (p := ⟨u4.heap.size, 1, none⟩) lB).trans cx1; have y2 := (hW.cell (p := ⟨u4.heap.size, 2, none⟩) lB).trans cx2; have y3 := (hW.cell (p := ⟨u4.heap.size, 3, none⟩) lB).trans cx3; have y4 := (hW.cell (p := ⟨u4.heap.size, 4, none⟩) lB).trans cx4; have y5 := (hW.cell (p := ⟨u4.heap.size, 5, none⟩) lB).trans cx5; have y6 := (hW.cell (p := ⟨u4.heap.size, 6, none⟩) lB).trans cx6; have y7 := (hW.cell (p := ⟨u4.heap.size, 7, none⟩) lB).trans cx7; simp [Oper.quietAt, Oper.quietUpon, go_sem, y0, y1, y2, y3, y4, y5, y6, y7]), ?_⟩; simp only [Act.put, List.setIfInBounds_toArray, List.set_cons_zero, List.set_cons_succ]; go_big_quiet_on)
        first | go_big_quiet_skip | (go_big_quiet_want; go_big_quiet_op; refine ⟨_, fun W hW => quietCall hW (HX2 W).out, ?_⟩; go_big_quiet_on)
        first | go_big_quiet_skip | (go_big_quiet_want; go_big_quiet_op; first | go_big_quiet_on | (refine ⟨_, fun _ _ => rfl, ?_⟩; go_big_quiet_on))
        first | go_big_quiet_skip | (go_big_quiet_want; go_big_quiet_op; first | go_big_quiet_on | (refine ⟨_, fun _ _ => rfl, ?_⟩; go_big_quiet_on))
        first | go_big_quiet_skip | (go_big_quiet_want; go_big_quiet_op; first | go_big_quiet_on | (refine ⟨_, fun _ _ => rfl, ?_⟩; go_big_quiet_on))
        go_big_quiet_want; go_big_quiet_op; first | go_big_quiet_on | (refine ⟨_, fun _ _ => rfl, ?_⟩; go_big_quiet_on)
        refine wpQuiet_nil ?_
        intro Y hY
        go_wp2_with fail
        go_meet
        exact ⟨rfl, hY⟩
    · have dz : (xc == 0) = false := beq_eq_false_iff_ne.2 cz
      clear cz
      rcases tb with _ | ⟨tx, ts⟩
      · skip
        refine wp_region_quiet (C := fun W => Below U.heap.size U W) (by kernel_rfl) (by kernel_rfl) (hX.drew) ?_
        dsimp only
        go_big_quiet_want; go_big_quiet_op; first | go_big_quiet_on | (refine ⟨_, fun _ _ => rfl, ?_⟩; go_big_quiet_on)
        go_big_quiet_want; go_big_quiet_op; first | go_big_quiet_on | (refine ⟨_, fun _ _ => rfl, ?_⟩; go_big_quiet_on)
        go_big_quiet_want; go_big_quiet_op; first | go_big_quiet_on | (refine ⟨_, fun _ _ => rfl, ?_⟩; go_big_quiet_on)
        first | go_big_quiet_skip | (go_big_quiet_want; go_big_quiet_op; first | go_big_quiet_on | (refine ⟨_, fun _ _ => rfl, ?_⟩; go_big_quiet_on))
        first | go_big_quiet_skip | (go_big_quiet_want; go_big_quiet_op; refine ⟨_, fun W hW => quietCall hW (HXB W).out, ?_⟩; go_big_quiet_on)
        first | go_big_quiet_skip | (go_big_quiet_want; refine ⟨.agg #[.int .i64 n0, .int .i64 n1, .int .i64 n2, .int .i64 n3, .int .i64 n4, .int .i64 n5, .int .i64 n6, .bool n7], fun W hW => (by have y0 := (hW.cell (p := ⟨u1.heap.size, 0, none⟩) lA).trans cn0; have y1 := (hW.cell (p := ⟨u1.heap.size, 1, none⟩) lA).trans cn1; have y2 := (hW.cell (p := ⟨u1.heap.size, 2, none⟩) lA).trans cn2; have y3 := (hW.cell (p := ⟨u1.heap.size, 3, none⟩) lA).trans cn3; have y4 := (hW.cell (p := ⟨u1.heap.size, 4, none⟩) lA).trans cn4; have y5 := (hW.cell (p := ⟨u1.heap.size, 5, none⟩) lA).trans cn5; have y6 := (hW.cell (p := ⟨u1.heap.size, 6, none⟩) lA).trans cn6; have y7 := (hW.cell (p := ⟨u1.heap.size, 7, none⟩) lA).trans cn7; simp [Oper.quietAt, Oper.quietUpon, go_sem, y0, y1, y2, y3, y4, y5, y6, y7]), ?_⟩; simp only [Act.put, List.setIfInBounds_toArray, List.set_cons_zero, List.set_cons_succ]; go_big_quiet_on)
        first | go_big_quiet_skip | (go_big_quiet_want; go_big_quiet_op; first | go_big_quiet_on | (refine ⟨_, fun _ _ => rfl, ?_⟩; go_big_quiet_on))
        first | go_big_quiet_skip | (go_big_quiet_want; go_big_quiet_op; first | go_big_quiet_on | (refine ⟨_, fun _ _ => rfl, ?_⟩; go_big_quiet_on))
        go_big_quiet_want; go_big_quiet_op; first | go_big_quiet_on | (refine ⟨_, fun _ _ => rfl, ?_⟩; go_big_quiet_on)
        go_big_quiet_want; go_big_quiet_op; first | go_big_quiet_on | (refine ⟨_, fun _ _ => rfl, ?_⟩; go_big_quiet_on)
        first | go_big_quiet_skip | (go_big_quiet_want; go_big_quiet_op; first | go_big_quiet_on | (refine ⟨_, fun _ _ => rfl, ?_⟩; go_big_quiet_on))
        first | go_big_quiet_skip | (go_big_quiet_want; refine ⟨.int .i64 xc, fun W hW => (by have y8 := (hW.cell (p := ⟨u4.heap.size, 8, none⟩) lB).trans cx8; simp [Oper.quietAt, Oper.quietUpon, go_sem, y8]), ?_⟩; simp only [Act.put, List.setIfInBounds_toArray, List.set_cons_zero, List.set_cons_succ]; go_big_quiet_on)
        first | go_big_quiet_skip | (go_big_quiet_want; go_big_quiet_op; first | go_big_quiet_on | (refine ⟨_, fun _ _ => rfl, ?_⟩; go_big_quiet_on))
        first | go_big_quiet_skip | (go_big_quiet_want; go_big_quiet_op; first | go_big_quiet_on | (refine ⟨_, fun _ _ => rfl, ?_⟩; go_big_quiet_on))
        first | go_big_quiet_skip | (go_big_quiet_want; go_big_quiet_op; first | go_big_quiet_on | (refine ⟨_, fun _ _ => rfl, ?_⟩; go_big_quiet_on))
        first | go_big_quiet_skip | (go_big_quiet_want; refine ⟨.agg #[.int .i64 x0, .int .i64 x1, .int .i64 x2, .int .i64 x3, .int .i64 x4, .int .i64 x5, .int .i64 x6, .bool x7], fun W hW => (by have y0 := (hW.cell (p := ⟨u4.heap.size, 0, none⟩) lB).trans cx0; have y1 := (hW.cell (p := ⟨u4.heap.size, 1, none⟩) lB).trans cx1; have y2 := (hW.cell (p := ⟨u4.heap.size, 2, none⟩) lB).trans cx2; have y3 := (hW.cell (p := ⟨u4.heap.size, 3, none⟩) lB).trans cx3; have y4 := (hW.cell (p := ⟨u4.heap.size, 4, none⟩) lB).trans cx4; have y5 := (hW.cell (p := ⟨u4.heap.size, 5, none⟩) lB).trans cx5; have y6 := (hW.cell (p := ⟨u4.heap.size, 6, none⟩) lB).trans cx6; have y7 := (hW.cell (p := ⟨u4.heap.size, 7, none⟩) lB).trans cx7; simp [Oper.quietAt, Oper.quietUpon, go_sem, y0, y1, y2, y3, y4, y5, y6, y7]), ?_⟩; simp only [Act.put, List.setIfInBounds_toArray, List.set_cons_zero, List.set_cons_succ]; go_big_quiet_on)
        first | go_big_quiet_skip | (go_big_quiet_want; go_big_quiet_op; refine ⟨_, fun W hW => quietCall hW (HXB W).out, ?_⟩; go_big_quiet_on)
        first | go_big_quiet_skip | (go_big_quiet_want; go_big_quiet_op; first | go_big_quiet_on | (refine ⟨_, fun _ _ => rfl, ?_⟩; go_big_quiet_on))
        first | go_big_quiet_skip | (go_big_quiet_want; go_big_quiet_op; first | go_big_quiet_on | (refine ⟨_, fun _ _ => rfl, ?_⟩; go_big_quiet_on))
        first | go_big_quiet_skip | (go_big_quiet_want; go_big_quiet_op; first | go_big_quiet_on | (refine ⟨_, fun _ _ => rfl, ?_⟩; go_big_quiet_on))
        go_big_quiet_want; go_big_quiet_op; first | go_big_quiet_on | (refine ⟨_, fun _ _ => rfl, ?_⟩; go_big_quiet_on)
        refine wpQuiet_nil ?_
        intro Y hY
        go_wp2_with fail
        go_meet
        exact ⟨rfl, hY⟩
      · have HI3 := fun W => Lib.hid (implNameFrom_any ⟨(tx :: ts).toArray⟩ W (by simp [ByteArray.size, maxLen] at hts ⊢; omega))
        rw [(HM1 (by simp)).out] at HI3
        unfold nmOutV at HI3
        dsimp only at HI3
        refine wp_region_quiet (C := fun W => Below U.heap.size U W) (by kernel_rfl) (by kernel_rfl) (hX.drew) ?_
        dsimp only
        go_big_quiet_want; go_big_quiet_op; first | go_big_quiet_on | (refine ⟨_, fun _ _ => rfl, ?_⟩; go_big_quiet_on)
        go_big_quiet_want; go_big_quiet_op; first | go_big_quiet_on | (refine ⟨_, fun _ _ => rfl, ?_⟩; go_big_quiet_on)
        go_big_quiet_want; go_big_quiet_op; first | go_big_quiet_on | (refine ⟨_, fun _ _ => rfl, ?_⟩; go_big_quiet_on)
        first | go_big_quiet_skip | (go_big_quiet_want; go_big_quiet_op; first | go_big_quiet_on | (refine ⟨_, fun _ _ => rfl, ?_⟩; go_big_quiet_on))
        first | go_big_quiet_skip | (go_big_quiet_want; go_big_quiet_op; refine ⟨_, fun W hW => quietCall hW (HI3 W).out, ?_⟩; go_big_quiet_on)
        first | go_big_quiet_skip | (go_big_quiet_want; refine ⟨.agg #[.int .i64 n0, .int .i64 n1, .int .i64 n2, .int .i64 n3, .int .i64 n4, .int .i64 n5, .int .i64 n6, .bool n7], fun W hW => (by have y0 := (hW.cell (p := ⟨u1.heap.size, 0, none⟩) lA).trans cn0; have y1 := (hW.cell (p := ⟨u1.heap.size, 1, none⟩) lA).trans cn1; have y2 := (hW.cell (p := ⟨u1.heap.size, 2, none⟩) lA).trans cn2; have y3 := (hW.cell (p := ⟨u1.heap.size, 3, none⟩) lA).trans cn3; have y4 := (hW.cell (p := ⟨u1.heap.size, 4, none⟩) lA).trans cn4; have y5 := (hW.cell (p := ⟨u1.heap.size, 5, none⟩) lA).trans cn5; have y6 := (hW.cell (p := ⟨u1.heap.size, 6, none⟩) lA).trans cn6; have y7 := (hW.cell (p := ⟨u1.heap.size, 7, none⟩) lA).trans cn7; simp [Oper.quietAt, Oper.quietUpon, go_sem, y0, y1, y2, y3, y4, y5, y6, y7]), ?_⟩; simp only [Act.put, List.setIfInBounds_toArray, List.set_cons_zero, List.set_cons_succ]; go_big_quiet_on)
        first | go_big_quiet_skip | (go_big_quiet_want; go_big_quiet_op; first | go_big_quiet_on | (refine ⟨_, fun _ _ => rfl, ?_⟩; go_big_quiet_on))
        first | go_big_quiet_skip | (go_big_quiet_want; go_big_quiet_op; first | go_big_quiet_on | (refine ⟨_, fun _ _ => rfl, ?_⟩; go_big_quiet_on))
        go_big_quiet_want; go_big_quiet_op; first | go_big_quiet_on | (refine ⟨_, fun _ _ => rfl, ?_⟩; go_big_quiet_on)
        go_big_quiet_want; go_big_quiet_op; first | go_big_quiet_on | (refine ⟨_, fun _ _ => rfl, ?_⟩; go_big_quiet_on)
        first | go_big_quiet_skip | (go_big_quiet_want; go_big_quiet_op; first | go_big_quiet_on | (refine ⟨_, fun _ _ => rfl, ?_⟩; go_big_quiet_on))
        first | go_big_quiet_skip | (go_big_quiet_want; refine ⟨.int .i64 xc, fun W hW => (by have y8 := (hW.cell (p := ⟨u4.heap.size, 8, none⟩) lB).trans cx8; simp [Oper.quietAt, Oper.quietUpon, go_sem, y8]), ?_⟩; simp only [Act.put, List.setIfInBounds_toArray, List.set_cons_zero, List.set_cons_succ]; go_big_quiet_on)
        first | go_big_quiet_skip | (go_big_quiet_want; go_big_quiet_op; first | go_big_quiet_on | (refine ⟨_, fun _ _ => rfl, ?_⟩; go_big_quiet_on))
        first | go_big_quiet_skip | (go_big_quiet_want; go_big_quiet_op; first | go_big_quiet_on | (refine ⟨_, fun _ _ => rfl, ?_⟩; go_big_quiet_on))
        first | go_big_quiet_skip | (go_big_quiet_want; go_big_quiet_op; first | go_big_quiet_on | (refine ⟨_, fun _ _ => rfl, ?_⟩; go_big_quiet_on))
        first | go_big_quiet_skip | (go_big_quiet_want; refine ⟨.agg #[.int .i64 x0, .int .i64 x1, .int .i64 x2, .int .i64 x3, .int .i64 x4, .int .i64 x5, .int .i64 x6, .bool x7], fun W hW => (by have y0 := (hW.cell (p := ⟨u4.heap.size, 0, none⟩) lB).trans cx0; have y1 := (hW.cell (p := ⟨u4.heap.size, 1, none⟩) lB).trans cx1; have y2 := (hW.cell (p := ⟨u4.heap.size, 2, none⟩) lB).trans cx2; have y3 := (hW.cell (p := ⟨u4.heap.size, 3, none⟩) lB).trans cx3; have y4 := (hW.cell (p := ⟨u4.heap.size, 4, none⟩) lB).trans cx4; have y5 := (hW.cell (p := ⟨u4.heap.size, 5, none⟩) lB).trans cx5; have y6 := (hW.cell (p := ⟨u4.heap.size, 6, none⟩) lB).trans cx6; have y7 := (hW.cell (p := ⟨u4.heap.size, 7, none⟩) lB).trans cx7; simp [Oper.quietAt, Oper.quietUpon, go_sem, y0, y1, y2, y3, y4, y5, y6, y7]), ?_⟩; simp only [Act.put, List.setIfInBounds_toArray, List.set_cons_zero, List.set_cons_succ]; go_big_quiet_on)
        first | go_big_quiet_skip | (go_big_quiet_want; go_big_quiet_op; refine ⟨_, fun W hW => quietCall hW (HXB W).out, ?_⟩; go_big_quiet_on)
        first | go_big_quiet_skip | (go_big_quiet_want; go_big_quiet_op; first | go_big_quiet_on | (refine ⟨_, fun _ _ => rfl, ?_⟩; go_big_quiet_on))
        first | go_big_quiet_skip | (go_big_quiet_want; go_big_quiet_op; first | go_big_quiet_on | (refine ⟨_, fun _ _ => rfl, ?_⟩; go_big_quiet_on))
        first | go_big_quiet_skip | (go_big_quiet_want; go_big_quiet_op; first | go_big_quiet_on | (refine ⟨_, fun _ _ => rfl, ?_⟩; go_big_quiet_on))
        go_big_quiet_want; go_big_quiet_op; first | go_big_quiet_on | (refine ⟨_, fun _ _ => rfl, ?_⟩; go_big_quiet_on)
        refine wpQuiet_nil ?_
        intro Y hY
        go_wp2_with fail
        go_meet
        exact ⟨rfl, hY⟩
  case rest =>
    obtain ⟨rfl, hY⟩ := hcut
    clear HM1 HM2 HXB
    go_wp2_with fail
    cases va
    · skip
      refine wp_region_quiet (C := fun W => Below U.heap.size U W) (by kernel_rfl) (by kernel_rfl) (hY.drew) ?_
      dsimp only
      go_big_quiet_want; refine ⟨.agg #[.int .i64 p0, .int .i64 p1, .int .i64 p2, .int .i64 p3, .int .i64 p4, .int .i64 p5, .int .i64 p6, .bool p7], fun W hW => (by have y0 := (hW.cell (p := ⟨u5.heap.size, 0, none⟩) lC).trans cp0; have y1 := (hW.cell (p := ⟨u5.heap.size, 1, none⟩) lC).trans cp1; have y2 := (hW.cell (p := ⟨u5.heap.size, 2, none⟩) lC).trans cp2; have y3 := (hW.cell (p := ⟨u5.heap.size, 3, none⟩) lC).trans cp3; have y4 := (hW.cell (p := ⟨u5.heap.size, 4, none⟩) lC).trans cp4; have y5 := (hW.cell (p := ⟨u5.heap.size, 5, none⟩) lC).trans cp5; have y6 := (hW.cell (p := ⟨u5.heap.size, 6, none⟩) lC).trans cp6; have y7 := (hW.cell (p := ⟨u5.heap.size, 7, none⟩) lC).trans cp7; simp [Oper.quietAt, Oper.quietUpon, go_sem, y0, y1, y2, y3, y4, y5, y6, y7]), ?_⟩; simp only [Act.put, List.setIfInBounds_toArray, List.set_cons_zero, List.set_cons_succ]; go_big_quiet_on
      go_big_quiet_want; go_big_quiet_op; refine ⟨_, fun W hW => quietCall hW (HOA W).out, ?_⟩; go_big_quiet_on
      go_big_quiet_want; go_big_quiet_op; first | go_big_quiet_on | (refine ⟨_, fun _ _ => rfl, ?_⟩; go_big_quiet_on)
      go_big_quiet_want; go_big_quiet_op; first | go_big_quiet_on | (refine ⟨_, fun _ _ => rfl, ?_⟩; go_big_quiet_on)
      first | go_big_quiet_skip | (go_big_quiet_want; refine ⟨.agg #[.int .i64 q0, .int .i64 q1, .int .i64 q2, .int .i64 q3, .int .i64 q4, .int .i64 q5, .int .i64 q6, .bool q7], fun W hW => (by have y0 := (hW.cell (p := ⟨u5.heap.size + 1, 0, none⟩) lD).trans cq0; have y1 := (hW.cell (p := ⟨u5.heap.size + 1, 1, none⟩) lD).trans cq1; have y2 := (hW.cell (p := ⟨u5.heap.size + 1, 2, none⟩) lD).trans cq2; have y3 := (hW.cell (p := ⟨u5.heap.size + 1, 3, none⟩) lD).trans cq3; have y4 := (hW.cell (p := ⟨u5.heap.size + 1, 4, none⟩) lD).trans cq4; have y5 := (hW.cell (p := ⟨u5.heap.size + 1, 5, none⟩) lD).trans cq5; have y6 := (hW.cell (p := ⟨u5.heap.size + 1, 6, none⟩) lD).trans cq6; have y7 := (hW.cell (p := ⟨u5.heap.size + 1, 7, none⟩) lD).trans cq7; simp [Oper.quietAt, Oper.quietUpon, go_sem, y0, y1, y2, y3, y4, y5, y6, y7]), ?_⟩; simp only [Act.put, List.setIfInBounds_toArray, List.set_cons_zero, List.set_cons_succ]; go_big_quiet_on)
      first | go_big_quiet_skip | (go_big_quiet_want; go_big_quiet_op; refine ⟨_, fun W hW => quietCall hW (HOB W).out, ?_⟩; go_big_quiet_on)
      first | go_big_quiet_skip | (go_big_quiet_want; go_big_quiet_op; first | go_big_quiet_on | (refine ⟨_, fun _ _ => rfl, ?_⟩; go_big_quiet_on))
      go_big_quiet_want; go_big_quiet_op; first | go_big_quiet_on | (refine ⟨_, fun _ _ => rfl, ?_⟩; go_big_quiet_on)
      go_big_quiet_want; go_big_quiet_op; first | go_big_quiet_on | (refine ⟨_, fun _ _ => rfl, ?_⟩; go_big_quiet_on)
      first | go_big_quiet_skip | (go_big_quiet_want; refine ⟨.agg #[.int .i64 p0, .int .i64 p1, .int .i64 p2, .int .i64 p3, .int .i64 p4, .int .i64 p5, .int .i64 p6, .bool p7], fun W hW => (by have y0 := (hW.cell (p := ⟨u5.heap.size, 0, none⟩) lC).trans cp0; have y1 := (hW.cell (p := ⟨u5.heap.size, 1, none⟩) lC).trans cp1; have y2 := (hW.cell (p := ⟨u5.heap.size, 2, none⟩) lC).trans cp2; have y3 := (hW.cell (p := ⟨u5.heap.size, 3, none⟩) lC).trans cp3; have y4 := (hW.cell (p := ⟨u5.heap.size, 4, none⟩) lC).trans cp4; have y5 := (hW.cell (p := ⟨u5.heap.size, 5, none⟩) lC).trans cp5; have y6 := (hW.cell (p := ⟨u5.heap.size, 6, none⟩) lC).trans cp6; have y7 := (hW.cell (p := ⟨u5.heap.size, 7, none⟩) lC).trans cp7; simp [Oper.quietAt, Oper.quietUpon, go_sem, y0, y1, y2, y3, y4, y5, y6, y7]), ?_⟩; simp only [Act.put, List.setIfInBounds_toArray, List.set_cons_zero, List.set_cons_succ]; go_big_quiet_on)
      first | go_big_quiet_skip | (go_big_quiet_want; refine ⟨.agg #[.int .i64 q0, .int .i64 q1, .int .i64 q2, .int .i64 q3, .int .i64 q4, .int .i64 q5, .int .i64 q6, .bool q7], fun W hW => (by have y0 := (hW.cell (p := ⟨u5.heap.size + 1, 0, none⟩) lD).trans cq0; have y1 := (hW.cell (p := ⟨u5.heap.size + 1, 1, none⟩) lD).trans cq1; have y2 := (hW.cell (p := ⟨u5.heap.size + 1, 2, none⟩) lD).trans cq2; have y3 := (hW.cell (p := ⟨u5.heap.size + 1, 3, none⟩) lD).trans cq3; have y4 := (hW.cell (p := ⟨u5.heap.size + 1, 4, none⟩) lD).trans cq4; have y5 := (hW.cell (p := ⟨u5.heap.size + 1, 5, none⟩) lD).trans cq5; have y6 := (hW.cell (p := ⟨u5.heap.size + 1, 6, none⟩) lD).trans cq6; have y7 := (hW.cell (p := ⟨u5.heap.size + 1, 7, none⟩) lD).trans cq7; simp [Oper.quietAt, Oper.quietUpon, go_sem, y0, y1, y2, y3, y4, y5, y6, y7]), ?_⟩; simp only [Act.put, List.setIfInBounds_toArray, List.set_cons_zero, List.set_cons_succ]; go_big_quiet_on)
      first | go_big_quiet_skip | (go_big_quiet_want; go_big_quiet_op; first | go_big_quiet_on | (refine ⟨_, fun _ _ => rfl, ?_⟩; go_big_quiet_on))
      go_big_quiet_want; go_big_quiet_op; first | go_big_quiet_on | (refine ⟨_, fun _ _ => rfl, ?_⟩; go_big_quiet_on)
      go_big_quiet_want; go_big_quiet_op; first | go_big_quiet_on | (refine ⟨_, fun _ _ => rfl, ?_⟩; go_big_quiet_on)
      first | go_big_quiet_skip | (go_big_quiet_want; refine ⟨.agg #[.int .i64 p0, .int .i64 p1, .int .i64 p2, .int .i64 p3, .int .i64 p4, .int .i64 p5, .int .i64 p6, .bool p7], fun W hW => (by have y0 := (hW.cell (p := ⟨u5.heap.size, 0, none⟩) lC).trans cp0; have y1 := (hW.cell (p := ⟨u5.heap.size, 1, none⟩) lC).trans cp1; have y2 := (hW.cell (p := ⟨u5.heap.size, 2, none⟩) lC).trans cp2; have y3 := (hW.cell (p := ⟨u5.heap.size, 3, none⟩) lC).trans cp3; have y4 := (hW.cell (p := ⟨u5.heap.size, 4, none⟩) lC).trans cp4; have y5 := (hW.cell (p := ⟨u5.heap.size, 5, none⟩) lC).trans cp5; have y6 := (hW.cell (p := ⟨u5.heap.size, 6, none⟩) lC).trans cp6; have y7 := (hW.cell (p := ⟨u5.heap.size, 7, none⟩) lC).trans cp7; simp [Oper.quietAt, Oper.quietUpon, go_sem, y0, y1, y2, y3, y4, y5, y6, y7]), ?_⟩; simp only [Act.put, List.setIfInBounds_toArray, List.set_cons_zero, List.set_cons_succ]; go_big_quiet_on)
      first | go_big_quiet_skip | (go_big_quiet_want; refine ⟨.agg #[.int .i64 q0, .int .i64 q1, .int .i64 q2, .int .i64 q3, .int .i64 q4, .int .i64 q5, .int .i64 q6, .bool q7], fun W hW => (by have y0 := (hW.cell (p := ⟨u5.heap.size + 1, 0, none⟩) lD).trans cq0; have y1 := (hW.cell (p := ⟨u5.heap.size + 1, 1, none⟩) lD).trans cq1; have y2 := (hW.cell (p := ⟨u5.heap.size + 1, 2, none⟩) lD).trans cq2; have y3 := (hW.cell (p := ⟨u5.heap.size + 1, 3, none⟩) lD).trans cq3; have y4 := (hW.cell (p := ⟨u5.heap.size + 1, 4, none⟩) lD).trans cq4; have y5 := (hW.cell (p := ⟨u5.heap.size + 1, 5, none⟩) lD).trans cq5; have y6 := (hW.cell (p := ⟨u5.heap.size + 1, 6, none⟩) lD).trans cq6; have y7 := (hW.cell (p := ⟨u5.heap.size + 1, 7, none⟩) lD).trans cq7; simp [Oper.quietAt, Oper.quietUpon, go_sem, y0, y1, y2, y3, y4, y5, y6, y7]), ?_⟩; simp only [Act.put, List.setIfInBounds_toArray, List.set_cons_zero, List.set_cons_succ]; go_big_quiet_on)
      first | go_big_quiet_skip | (go_big_quiet_want; go_big_quiet_op; refine ⟨_, fun W hW => quietCall hW (HIL W).out, ?_⟩; go_big_quiet_on)
      first | go_big_quiet_skip | (go_big_quiet_want; refine ⟨.agg #[.int .i64 q0, .int .i64 q1, .int .i64 q2, .int .i64 q3, .int .i64 q4, .int .i64 q5, .int .i64 q6, .bool q7], fun W hW => (by have y0 := (hW.cell (p := ⟨u5.heap.size + 1, 0, none⟩) lD).trans cq0; have y1 := (hW.cell (p := ⟨u5.heap.size + 1, 1, none⟩) lD).trans cq1; have y2 := (hW.cell (p := ⟨u5.heap.size + 1, 2, none⟩) lD).trans cq2; have y3 := (hW.cell (p := ⟨u5.heap.size + 1, 3, none⟩) lD).trans cq3; have y4 := (hW.cell (p := ⟨u5.heap.size + 1, 4, none⟩) lD).trans cq4; have y5 := (hW.cell (p := ⟨u5.heap.size + 1, 5, none⟩) lD).trans cq5; have y6 := (hW.cell (p := ⟨u5.heap.size + 1, 6, none⟩) lD).trans cq6; have y7 := (hW.cell (p := ⟨u5.heap.size + 1, 7, none⟩) lD).trans cq7; simp [Oper.quietAt, Oper.quietUpon, go_sem, y0, y1, y2, y3, y4, y5, y6, y7]), ?_⟩; simp only [Act.put, List.setIfInBounds_toArray, List.set_cons_zero, List.set_cons_succ]; go_big_quiet_on)
      first | go_big_quiet_skip | (go_big_quiet_want; refine ⟨.agg #[.int .i64 p0, .int .i64 p1, .int .i64 p2, .int .i64 p3, .int .i64 p4, .int .i64 p5, .int .i64 p6, .bool p7], fun W hW => (by have y0 := (hW.cell (p := ⟨u5.heap.size, 0, none⟩) lC).trans cp0; have y1 := (hW.cell (p := ⟨u5.heap.size, 1, none⟩) lC).trans cp1; have y2 := (hW.cell (p := ⟨u5.heap.size, 2, none⟩) lC).trans cp2; have y3 := (hW.cell (p := ⟨u5.heap.size, 3, none⟩) lC).trans cp3; have y4 := (hW.cell (p := ⟨u5.heap.size, 4, none⟩) lC).trans cp4; have y5 := (hW.cell (p := ⟨u5.heap.size, 5, none⟩) lC).trans cp5; have y6 := (hW.cell (p := ⟨u5.heap.size, 6, none⟩) lC).trans cp6; have y7 := (hW.cell (p := ⟨u5.heap.size, 7, none⟩) lC).trans cp7; simp [Oper.quietAt, Oper.quietUpon, go_sem, y0, y1, y2, y3, y4, y5, y6, y7]), ?_⟩; simp only [Act.put, List.setIfInBounds_toArray, List.set_cons_zero, List.set_cons_succ]; go_big_quiet_on)
      first | go_big_quiet_skip | (go_big_quiet_want; go_big_quiet_op; refine ⟨_, fun W hW => quietCall hW (HIM W).out, ?_⟩; go_big_quiet_on)
      first | go_big_quiet_skip | (go_big_quiet_want; go_big_quiet_op; first | go_big_quiet_on | (refine ⟨_, fun _ _ => rfl, ?_⟩; go_big_quiet_on))
      go_big_quiet_want; go_big_quiet_op; first | go_big_quiet_on | (refine ⟨_, fun _ _ => rfl, ?_⟩; go_big_quiet_on)
      go_big_quiet_want; go_big_quiet_op; first | go_big_quiet_on | (refine ⟨_, fun _ _ => rfl, ?_⟩; go_big_quiet_on)
      refine wpQuiet_nil ?_
      intro Z hZ
      go_wp2
      go_ret
      exact ⟨rfl, HBU.out.trans (hZ.mono HBU.out.size)⟩
    cases vb
    · skip
      refine wp_region_quiet (C := fun W => Below U.heap.size U W) (by kernel_rfl) (by kernel_rfl) (hY.drew) ?_
      dsimp only
      go_big_quiet_want; refine ⟨.agg #[.int .i64 p0, .int .i64 p1, .int .i64 p2, .int .i64 p3, .int .i64 p4, .int .i64 p5, .int .i64 p6, .bool p7], fun W hW => (by have y0 := (hW.cell (p := ⟨u5.heap.size, 0, none⟩) lC).trans cp0; have y1 := (hW.cell (p := ⟨u5.heap.size, 1, none⟩) lC).trans cp1; have y2 := (hW.cell (p := ⟨u5.heap.size, 2, none⟩) lC).trans cp2; have y3 := (hW.cell (p := ⟨u5.heap.size, 3, none⟩) lC).trans cp3; have y4 := (hW.cell (p := ⟨u5.heap.size, 4, none⟩) lC).trans cp4; have y5 := (hW.cell (p := ⟨u5.heap.size, 5, none⟩) lC).trans cp5; have y6 := (hW.cell (p := ⟨u5.heap.size, 6, none⟩) lC).trans cp6; have y7 := (hW.cell (p := ⟨u5.heap.size, 7, none⟩) lC).trans cp7; simp [Oper.quietAt, Oper.quietUpon, go_sem, y0, y1, y2, y3, y4, y5, y6, y7]), ?_⟩; simp only [Act.put, List.setIfInBounds_toArray, List.set_cons_zero, List.set_cons_succ]; go_big_quiet_on
      go_big_quiet_want; go_big_quiet_op; refine ⟨_, fun W hW => quietCall hW (HOA W).out, ?_⟩; go_big_quiet_on
      go_big_quiet_want; go_big_quiet_op; first | go_big_quiet_on | (refine ⟨_, fun _ _ => rfl, ?_⟩; go_big_quiet_on)
      go_big_quiet_want; go_big_quiet_op; first | go_big_quiet_on | (refine ⟨_, fun _ _ => rfl, ?_⟩; go_big_quiet_on)
      first | go_big_quiet_skip | (go_big_quiet_want; refine ⟨.agg #[.int .i64 q0, .int .i64 q1, .int .i64 q2, .int .i64 q3, .int .i64 q4, .int .i64 q5, .int .i64 q6, .bool q7], fun W hW => (by have y0 := (hW.cell (p := ⟨u5.heap.size + 1, 0, none⟩) lD).trans cq0; have y1 := (hW.cell (p := ⟨u5.heap.size + 1, 1, none⟩) lD).trans cq1; have y2 := (hW.cell (p := ⟨u5.heap.size + 1, 2, none⟩) lD).trans cq2; have y3 := (hW.cell (p := ⟨u5.heap.size + 1, 3, none⟩) lD).trans cq3; have y4 := (hW.cell (p := ⟨u5.heap.size + 1, 4, none⟩) lD).trans cq4; have y5 := (hW.cell (p := ⟨u5.heap.size + 1, 5, none⟩) lD).trans cq5; have y6 := (hW.cell (p := ⟨u5.heap.size + 1, 6, none⟩) lD).trans cq6; have y7 := (hW.cell (p := ⟨u5.heap.size + 1, 7, none⟩) lD).trans cq7; simp [Oper.quietAt, Oper.quietUpon, go_sem, y0, y1, y2, y3, y4, y5, y6, y7]), ?_⟩; simp only [Act.put, List.setIfInBounds_toArray, List.set_cons_zero, List.set_cons_succ]; go_big_quiet_on)
      first | go_big_quiet_skip | (go_big_quiet_want; go_big_quiet_op; refine ⟨_, fun W hW => quietCall hW (HOB W).out, ?_⟩; go_big_quiet_on)
      first | go_big_quiet_skip | (go_big_quiet_want; go_big_quiet_op; first | go_big_quiet_on | (refine ⟨_, fun _ _ => rfl, ?_⟩; go_big_quiet_on))
      go_big_quiet_want; go_big_quiet_op; first | go_big_quiet_on | (refine ⟨_, fun _ _ => rfl, ?_⟩; go_big_quiet_on)
      go_big_quiet_want; go_big_quiet_op; first | go_big_quiet_on | (refine ⟨_, fun _ _ => rfl, ?_⟩; go_big_quiet_on)
      first | go_big_quiet_skip | (go_big_quiet_want; refine ⟨.agg #[.int .i64 p0, .int .i64 p1, .int .i64 p2, .int .i64 p3, .int .i64 p4, .int .i64 p5, .int .i64 p6, .bool p7], fun W hW => (by have y0 := (hW.cell (p := ⟨u5.heap.size, 0, none⟩) lC).trans cp0; have y1 := (hW.cell (p := ⟨u5.heap.size, 1, none⟩) lC).trans cp1; have y2 := (hW.cell (p := ⟨u5.heap.size, 2, none⟩) lC).trans cp2; have y3 := (hW.cell (p := ⟨u5.heap.size, 3, none⟩) lC).trans cp3; have y4 := (hW.cell (p := ⟨u5.heap.size, 4, none⟩) lC).trans cp4; have y5 := (hW.cell (p := ⟨u5.heap.size, 5, none⟩) lC).trans cp5; have y6 := (hW.cell (p := ⟨u5.heap.size, 6, none⟩) lC).trans cp6; have y7 := (hW.cell (p := ⟨u5.heap.size, 7, none⟩) lC).trans cp7; simp [Oper.quietAt, Oper.quietUpon, go_sem, y0, y1, y2, y3, y4, y5, y6, y7]), ?_⟩; simp only [Act.put, List.setIfInBounds_toArray, List.set_cons_zero, List.set_cons_succ]; go_big_quiet_on)
      first | go_big_quiet_skip | (go_big_quiet_want; refine ⟨.agg #[.int .i64 q0, .int .i64 q1, .int .i64 q2, .int .i64 q3, .int .i64 q4, .int .i64 q5, .int .i64 q6, .bool q7], fun W hW => (by have y0 := (hW.cell (p := ⟨u5.heap.size + 1, 0, none⟩) lD).trans cq0; have y1 := (hW.cell (p := ⟨u5.heap.size + 1, 1, none⟩) lD).trans cq1; have y2 := (hW.cell (p := ⟨u5.heap.size + 1, 2, none⟩) lD).trans cq2; have y3 := (hW.cell (p := ⟨u5.heap.size + 1, 3, none⟩) lD).trans cq3; have y4 := (hW.cell (p := ⟨u5.heap.size + 1, 4, none⟩) lD).trans cq4; have y5 := (hW.cell (p := ⟨u5.heap.size + 1, 5, none⟩) lD).trans cq5; have y6 := (hW.cell (p := ⟨u5.heap.size + 1, 6, none⟩) lD).trans cq6; have y7 := (hW.cell (p := ⟨u5.heap.size + 1, 7, none⟩) lD).trans cq7; simp [Oper.quietAt, Oper.quietUpon, go_sem, y0, y1, y2, y3, y4, y5, y6, y7]), ?_⟩; simp only [Act.put, List.setIfInBounds_toArray, List.set_cons_zero, List.set_cons_succ]; go_big_quiet_on)
      first | go_big_quiet_skip | (go_big_quiet_want; go_big_quiet_op; first | go_big_quiet_on | (refine ⟨_, fun _ _ => rfl, ?_⟩; go_big_quiet_on))
      go_big_quiet_want; go_big_quiet_op; first | go_big_quiet_on | (refine ⟨_, fun _ _ => rfl, ?_⟩; go_big_quiet_on)
      go_big_quiet_want; go_big_quiet_op; first | go_big_quiet_on | (refine ⟨_, fun _ _ => rfl, ?_⟩; go_big_quiet_on)
      first | go_big_quiet_skip | (go_big_quiet_want; refine ⟨.agg #[.int .i64 p0, .int .i64 p1, .int .i64 p2, .int .i64 p3, .int .i64 p4, .int .i64 p5, .int .i64 p6, .bool p7], fun W hW => (by have y0 := (hW.cell (p := ⟨u5.heap.size, 0, none⟩) lC).trans cp0; have y1 := (hW.cell (p := ⟨u5.heap.size, 1, none⟩) lC).trans cp1; have y2 := (hW.cell (p := ⟨u5.heap.size, 2, none⟩) lC).trans cp2; have y3 := (hW.cell (p := ⟨u5.heap.size, 3, none⟩) lC).trans cp3; have y4 := (hW.cell (p := ⟨u5.heap.size, 4, none⟩) lC).trans cp4; have y5 := (hW.cell (p := ⟨u5.heap.size, 5, none⟩) lC).trans cp5; have y6 := (hW.cell (p := ⟨u5.heap.size, 6, none⟩) lC).trans cp6; have y7 := (hW.cell (p := ⟨u5.heap.size, 7, none⟩) lC).trans cp7; simp [Oper.quietAt, Oper.quietUpon, go_sem, y0, y1, y2, y3, y4, y5, y6, y7]), ?_⟩; simp only [Act.put, List.setIfInBounds_toArray, List.set_cons_zero, List.set_cons_succ]; go_big_quiet_on)
      first | go_big_quiet_skip | (go_big_quiet_want; refine ⟨.agg #[.int .i64 q0, .int .i64 q1, .int .i64 q2, .int .i64 q3, .int .i64 q4, .int .i64 q5, .int .i64 q6, .bool q7], fun W hW => (by have y0 := (hW.cell (p := ⟨u5.heap.size + 1, 0, none⟩) lD).trans cq0; have y1 := (hW.cell (p := ⟨u5.heap.size + 1, 1, none⟩) lD).trans cq1; have y2 := (hW.cell (p := ⟨u5.heap.size + 1, 2, none⟩) lD).trans cq2; have y3 := (hW.cell (p := ⟨u5.heap.size + 1, 3, none⟩) lD).trans cq3; have y4 := (hW.cell (p := ⟨u5.heap.size + 1, 4, none⟩) lD).trans cq4; have y5 := (hW.cell (p := ⟨u5.heap.size + 1, 5, none⟩) lD).trans cq5; have y6 := (hW.cell (p := ⟨u5.heap.size + 1, 6, none⟩) lD).trans cq6; have y7 := (hW.cell (p := ⟨u5.heap.size + 1, 7, none⟩) lD).trans cq7; simp [Oper.quietAt, Oper.quietUpon, go_sem, y0, y1, y2, y3, y4, y5, y6, y7]), ?_⟩; simp only [Act.put, List.setIfInBounds_toArray, List.set_cons_zero, List.set_cons_succ]; go_big_quiet_on)
      first | go_big_quiet_skip | (go_big_quiet_want; go_big_quiet_op; refine ⟨_, fun W hW => quietCall hW (HIL W).out, ?_⟩; go_big_quiet_on)
      first | go_big_quiet_skip | (go_big_quiet_want; refine ⟨.agg #[.int .i64 q0, .int .i64 q1, .int .i64 q2, .int .i64 q3, .int .i64 q4, .int .i64 q5, .int .i64 q6, .bool q7], fun W hW => (by have y0 := (hW.cell (p := ⟨u5.heap.size + 1, 0, none⟩) lD).trans cq0; have y1 := (hW.cell (p := ⟨u5.heap.size + 1, 1, none⟩) lD).trans cq1; have y2 := (hW.cell (p := ⟨u5.heap.size + 1, 2, none⟩) lD).trans cq2; have y3 := (hW.cell (p := ⟨u5.heap.size + 1, 3, none⟩) lD).trans cq3; have y4 := (hW.cell (p := ⟨u5.heap.size + 1, 4, none⟩) lD).trans cq4; have y5 := (hW.cell (p := ⟨u5.heap.size + 1, 5, none⟩) lD).trans cq5; have y6 := (hW.cell (p := ⟨u5.heap.size + 1, 6, none⟩) lD).trans cq6; have y7 := (hW.cell (p := ⟨u5.heap.size + 1, 7, none⟩) lD).trans cq7; simp [Oper.quietAt, Oper.quietUpon, go_sem, y0, y1, y2, y3, y4, y5, y6, y7]), ?_⟩; simp only [Act.put, List.setIfInBounds_toArray, List.set_cons_zero, List.set_cons_succ]; go_big_quiet_on)
      first | go_big_quiet_skip | (go_big_quiet_want; refine ⟨.agg #[.int .i64 p0, .int .i64 p1, .int .i64 p2, .int .i64 p3, .int .i64 p4, .int .i64 p5, .int .i64 p6, .bool p7], fun W hW => (by have y0 := (hW.cell (p := ⟨u5.heap.size, 0, none⟩) lC).trans cp0; have y1 := (hW.cell (p := ⟨u5.heap.size, 1, none⟩) lC).trans cp1; have y2 := (hW.cell (p := ⟨u5.heap.size, 2, none⟩) lC).trans cp2; have y3 := (hW.cell (p := ⟨u5.heap.size, 3, none⟩) lC).trans cp3; have y4 := (hW.cell (p := ⟨u5.heap.size, 4, none⟩) lC).trans cp4; have y5 := (hW.cell (p := ⟨u5.heap.size, 5, none⟩) lC).trans cp5; have y6 := (hW.cell (p := ⟨u5.heap.size, 6, none⟩) lC).trans cp6; have y7 := (hW.cell (p := ⟨u5.heap.size, 7, none⟩) lC).trans cp7; simp [Oper.quietAt, Oper.quietUpon, go_sem, y0, y1, y2, y3, y4, y5, y6, y7]), ?_⟩; simp only [Act.put, List.setIfInBounds_toArray, List.set_cons_zero, List.set_cons_succ]; go_big_quiet_on)
      first | go_big_quiet_skip | (go_big_quiet_want; go_big_quiet_op; refine ⟨_, fun W hW => quietCall hW (HIM W).out, ?_⟩; go_big_quiet_on)
      first | go_big_quiet_skip | (go_big_quiet_want; go_big_quiet_op; first | go_big_quiet_on | (refine ⟨_, fun _ _ => rfl, ?_⟩; go_big_quiet_on))
      go_big_quiet_want; go_big_quiet_op; first | go_big_quiet_on | (refine ⟨_, fun _ _ => rfl, ?_⟩; go_big_quiet_on)
      go_big_quiet_want; go_big_quiet_op; first | go_big_quiet_on | (refine ⟨_, fun _ _ => rfl, ?_⟩; go_big_quiet_on)
      refine wpQuiet_nil ?_
      intro Z hZ
      go_wp2
      go_ret
      exact ⟨rfl, HBU.out.trans (hZ.mono HBU.out.size)⟩
    by_cases hpq : (⟨p0, p1, p2, p3, p4, p5, p6, p7⟩ : Nm) = ⟨q0, q1, q2, q3, q4, q5, q6, q7⟩
    · simp only [Nm.mk.injEq] at hpq
      have HE := Lib.hid hpq
      clear hpq HM3
      refine wp_region_quiet (C := fun W => Below U.heap.size U W) (by kernel_rfl) (by kernel_rfl) (hY.drew) ?_
      dsimp only
      go_big_quiet_want; refine ⟨.agg #[.int .i64 p0, .int .i64 p1, .int .i64 p2, .int .i64 p3, .int .i64 p4, .int .i64 p5, .int .i64 p6, .bool p7], fun W hW => (by have y0 := (hW.cell (p := ⟨u5.heap.size, 0, none⟩) lC).trans cp0; have y1 := (hW.cell (p := ⟨u5.heap.size, 1, none⟩) lC).trans cp1; have y2 := (hW.cell (p := ⟨u5.heap.size, 2, none⟩) lC).trans cp2; have y3 := (hW.cell (p := ⟨u5.heap.size, 3, none⟩) lC).trans cp3; have y4 := (hW.cell (p := ⟨u5.heap.size, 4, none⟩) lC).trans cp4; have y5 := (hW.cell (p := ⟨u5.heap.size, 5, none⟩) lC).trans cp5; have y6 := (hW.cell (p := ⟨u5.heap.size, 6, none⟩) lC).trans cp6; have y7 := (hW.cell (p := ⟨u5.heap.size, 7, none⟩) lC).trans cp7; simp [Oper.quietAt, Oper.quietUpon, go_sem, y0, y1, y2, y3, y4, y5, y6, y7]), ?_⟩; simp only [Act.put, List.setIfInBounds_toArray, List.set_cons_zero, List.set_cons_succ]; go_big_quiet_on
      go_big_quiet_want; go_big_quiet_op; refine ⟨_, fun W hW => quietCall hW (HOA W).out, ?_⟩; go_big_quiet_on
      go_big_quiet_want; go_big_quiet_op; first | go_big_quiet_on | (refine ⟨_, fun _ _ => rfl, ?_⟩; go_big_quiet_on)
      go_big_quiet_want; go_big_quiet_op; first | go_big_quiet_on | (refine ⟨_, fun _ _ => rfl, ?_⟩; go_big_quiet_on)
      first | go_big_quiet_skip | (go_big_quiet_want; refine ⟨.agg #[.int .i64 q0, .int .i64 q1, .int .i64 q2, .int .i64 q3, .int .i64 q4, .int .i64 q5, .int .i64 q6, .bool q7], fun W hW => (by have y0 := (hW.cell (p := ⟨u5.heap.size + 1, 0, none⟩) lD).trans cq0; have y1 := (hW.cell (p := ⟨u5.heap.size + 1, 1, none⟩) lD).trans cq1; have y2 := (hW.cell (p := ⟨u5.heap.size + 1, 2, none⟩) lD).trans cq2; have y3 := (hW.cell (p := ⟨u5.heap.size + 1, 3, none⟩) lD).trans cq3; have y4 := (hW.cell (p := ⟨u5.heap.size + 1, 4, none⟩) lD).trans cq4; have y5 := (hW.cell (p := ⟨u5.heap.size + 1, 5, none⟩) lD).trans cq5; have y6 := (hW.cell (p := ⟨u5.heap.size + 1, 6, none⟩) lD).trans cq6; have y7 := (hW.cell (p := ⟨u5.heap.size + 1, 7, none⟩) lD).trans cq7; simp [Oper.quietAt, Oper.quietUpon, go_sem, y0, y1, y2, y3, y4, y5, y6, y7]), ?_⟩; simp only [Act.put, List.setIfInBounds_toArray, List.set_cons_zero, List.set_cons_succ]; go_big_quiet_on)
      first | go_big_quiet_skip | (go_big_quiet_want; go_big_quiet_op; refine ⟨_, fun W hW => quietCall hW (HOB W).out, ?_⟩; go_big_quiet_on)
      first | go_big_quiet_skip | (go_big_quiet_want; go_big_quiet_op; first | go_big_quiet_on | (refine ⟨_, fun _ _ => rfl, ?_⟩; go_big_quiet_on))
      go_big_quiet_want; go_big_quiet_op; first | go_big_quiet_on | (refine ⟨_, fun _ _ => rfl, ?_⟩; go_big_quiet_on)
      go_big_quiet_want; go_big_quiet_op; first | go_big_quiet_on | (refine ⟨_, fun _ _ => rfl, ?_⟩; go_big_quiet_on)
      first | go_big_quiet_skip | (go_big_quiet_want; refine ⟨.agg #[.int .i64 p0, .int .i64 p1, .int .i64 p2, .int .i64 p3, .int .i64 p4, .int .i64 p5, .int .i64 p6, .bool p7], fun W hW => (by have y0 := (hW.cell (p := ⟨u5.heap.size, 0, none⟩) lC).trans cp0; have y1 := (hW.cell (p := ⟨u5.heap.size, 1, none⟩) lC).trans cp1; have y2 := (hW.cell (p := ⟨u5.heap.size, 2, none⟩) lC).trans cp2; have y3 := (hW.cell (p := ⟨u5.heap.size, 3, none⟩) lC).trans cp3; have y4 := (hW.cell (p := ⟨u5.heap.size, 4, none⟩) lC).trans cp4; have y5 := (hW.cell (p := ⟨u5.heap.size, 5, none⟩) lC).trans cp5; have y6 := (hW.cell (p := ⟨u5.heap.size, 6, none⟩) lC).trans cp6; have y7 := (hW.cell (p := ⟨u5.heap.size, 7, none⟩) lC).trans cp7; simp [Oper.quietAt, Oper.quietUpon, go_sem, y0, y1, y2, y3, y4, y5, y6, y7]), ?_⟩; simp only [Act.put, List.setIfInBounds_toArray, List.set_cons_zero, List.set_cons_succ]; go_big_quiet_on)
      first | go_big_quiet_skip | (go_big_quiet_want; refine ⟨.agg #[.int .i64 q0, .int .i64 q1, .int .i64 q2, .int .i64 q3, .int .i64 q4, .int .i64 q5, .int .i64 q6, .bool q7], fun W hW => (by have y0 := (hW.cell (p := ⟨u5.heap.size + 1, 0, none⟩) lD).trans cq0; have y1 := (hW.cell (p := ⟨u5.heap.size + 1, 1, none⟩) lD).trans cq1; have y2 := (hW.cell (p := ⟨u5.heap.size + 1, 2, none⟩) lD).trans cq2; have y3 := (hW.cell (p := ⟨u5.heap.size + 1, 3, none⟩) lD).trans cq3; have y4 := (hW.cell (p := ⟨u5.heap.size + 1, 4, none⟩) lD).trans cq4; have y5 := (hW.cell (p := ⟨u5.heap.size + 1, 5, none⟩) lD).trans cq5; have y6 := (hW.cell (p := ⟨u5.heap.size + 1, 6, none⟩) lD).trans cq6; have y7 := (hW.cell (p := ⟨u5.heap.size + 1, 7, none⟩) lD).trans cq7; simp [Oper.quietAt, Oper.quietUpon, go_sem, y0, y1, y2, y3, y4, y5, y6, y7]), ?_⟩; simp only [Act.put, List.setIfInBounds_toArray, List.set_cons_zero, List.set_cons_succ]; go_big_quiet_on)
      go_big_quiet_want; refine ⟨.bool true, fun W hW => (by obtain ⟨e0, e1, e2, e3, e4, e5, e6, e7⟩ := HE.out; simp [Oper.quietAt, Oper.quietUpon, go_sem, e0, e1, e2, e3, e4, e5, e6, e7]), ?_⟩; simp only [Act.put, List.setIfInBounds_toArray, List.set_cons_zero, List.set_cons_succ]; go_big_quiet_on
      go_big_quiet_want; go_big_quiet_op; first | go_big_quiet_on | (refine ⟨_, fun _ _ => rfl, ?_⟩; go_big_quiet_on)
      go_big_quiet_want; go_big_quiet_op; first | go_big_quiet_on | (refine ⟨_, fun _ _ => rfl, ?_⟩; go_big_quiet_on)
      first | go_big_quiet_skip | (go_big_quiet_want; refine ⟨.agg #[.int .i64 p0, .int .i64 p1, .int .i64 p2, .int .i64 p3, .int .i64 p4, .int .i64 p5, .int .i64 p6, .bool p7], fun W hW => (by have y0 := (hW.cell (p := ⟨u5.heap.size, 0, none⟩) lC).trans cp0; have y1 := (hW.cell (p := ⟨u5.heap.size, 1, none⟩) lC).trans cp1; have y2 := (hW.cell (p := ⟨u5.heap.size, 2, none⟩) lC).trans cp2; have y3 := (hW.cell (p := ⟨u5.heap.size, 3, none⟩) lC).trans cp3; have y4 := (hW.cell (p := ⟨u5.heap.size, 4, none⟩) lC).trans cp4; have y5 := (hW.cell (p := ⟨u5.heap.size, 5, none⟩) lC).trans cp5; have y6 := (hW.cell (p := ⟨u5.heap.size, 6, none⟩) lC).trans cp6; have y7 := (hW.cell (p := ⟨u5.heap.size, 7, none⟩) lC).trans cp7; simp [Oper.quietAt, Oper.quietUpon, go_sem, y0, y1, y2, y3, y4, y5, y6, y7]), ?_⟩; simp only [Act.put, List.setIfInBounds_toArray, List.set_cons_zero, List.set_cons_succ]; go_big_quiet_on)
      first | go_big_quiet_skip | (go_big_quiet_want; refine ⟨.agg #[.int .i64 q0, .int .i64 q1, .int .i64 q2, .int .i64 q3, .int .i64 q4, .int .i64 q5, .int .i64 q6, .bool q7], fun W hW => (by have y0 := (hW.cell (p := ⟨u5.heap.size + 1, 0, none⟩) lD).trans cq0; have y1 := (hW.cell (p := ⟨u5.heap.size + 1, 1, none⟩) lD).trans cq1; have y2 := (hW.cell (p := ⟨u5.heap.size + 1, 2, none⟩) lD).trans cq2; have y3 := (hW.cell (p := ⟨u5.heap.size + 1, 3, none⟩) lD).trans cq3; have y4 := (hW.cell (p := ⟨u5.heap.size + 1, 4, none⟩) lD).trans cq4; have y5 := (hW.cell (p := ⟨u5.heap.size + 1, 5, none⟩) lD).trans cq5; have y6 := (hW.cell (p := ⟨u5.heap.size + 1, 6, none⟩) lD).trans cq6; have y7 := (hW.cell (p := ⟨u5.heap.size + 1, 7, none⟩) lD).trans cq7; simp [Oper.quietAt, Oper.quietUpon, go_sem, y0, y1, y2, y3, y4, y5, y6, y7]), ?_⟩; simp only [Act.put, List.setIfInBounds_toArray, List.set_cons_zero, List.set_cons_succ]; go_big_quiet_on)
      first | go_big_quiet_skip | (go_big_quiet_want; go_big_quiet_op; refine ⟨_, fun W hW => quietCall hW (HIL W).out, ?_⟩; go_big_quiet_on)
      first | go_big_quiet_skip | (go_big_quiet_want; refine ⟨.agg #[.int .i64 q0, .int .i64 q1, .int .i64 q2, .int .i64 q3, .int .i64 q4, .int .i64 q5, .int .i64 q6, .bool q7], fun W hW => (by have y0 := (hW.cell (p := ⟨u5.heap.size + 1, 0, none⟩) lD).trans cq0; have y1 := (hW.cell (p := ⟨u5.heap.size + 1, 1, none⟩) lD).trans cq1; have y2 := (hW.cell (p := ⟨u5.heap.size + 1, 2, none⟩) lD).trans cq2; have y3 := (hW.cell (p := ⟨u5.heap.size + 1, 3, none⟩) lD).trans cq3; have y4 := (hW.cell (p := ⟨u5.heap.size + 1, 4, none⟩) lD).trans cq4; have y5 := (hW.cell (p := ⟨u5.heap.size + 1, 5, none⟩) lD).trans cq5; have y6 := (hW.cell (p := ⟨u5.heap.size + 1, 6, none⟩) lD).trans cq6; have y7 := (hW.cell (p := ⟨u5.heap.size + 1, 7, none⟩) lD).trans cq7; simp [Oper.quietAt, Oper.quietUpon, go_sem, y0, y1, y2, y3, y4, y5, y6, y7]), ?_⟩; simp only [Act.put, List.setIfInBounds_toArray, List.set_cons_zero, List.set_cons_succ]; go_big_quiet_on)
      first | go_big_quiet_skip | (go_big_quiet_want; refine ⟨.agg #[.int .i64 p0, .int .i64 p1, .int .i64 p2, .int .i64 p3, .int .i64 p4, .int .i64 p5, .int .i64 p6, .bool p7], fun W hW => (by have y0 := (hW.cell (p := ⟨u5.heap.size, 0, none⟩) lC).trans cp0; have y1 := (hW.cell (p := ⟨u5.heap.size, 1, none⟩) lC).trans cp1; have y2 := (hW.cell (p := ⟨u5.heap.size, 2, none⟩) lC).trans cp2; have y3 := (hW.cell (p := ⟨u5.heap.size, 3, none⟩) lC).trans cp3; have y4 := (hW.cell (p := ⟨u5.heap.size, 4, none⟩) lC).trans cp4; have y5 := (hW.cell (p := ⟨u5.heap.size, 5, none⟩) lC).trans cp5; have y6 := (hW.cell (p := ⟨u5.heap.size, 6, none⟩) lC).trans cp6; have y7 := (hW.cell (p := ⟨u5.heap.size, 7, none⟩) lC).trans cp7; simp [Oper.quietAt, Oper.quietUpon, go_sem, y0, y1, y2, y3, y4, y5, y6, y7]), ?_⟩; simp only [Act.put, List.setIfInBounds_toArray, List.set_cons_zero, List.set_cons_succ]; go_big_quiet_on)
      first | go_big_quiet_skip | (go_big_quiet_want; go_big_quiet_op; refine ⟨_, fun W hW => quietCall hW (HIM W).out, ?_⟩; go_big_quiet_on)
      first | go_big_quiet_skip | (go_big_quiet_want; go_big_quiet_op; first | go_big_quiet_on | (refine ⟨_, fun _ _ => rfl, ?_⟩; go_big_quiet_on))
      go_big_quiet_want; go_big_quiet_op; first | go_big_quiet_on | (refine ⟨_, fun _ _ => rfl, ?_⟩; go_big_quiet_on)
      go_big_quiet_want; go_big_quiet_op; first | go_big_quiet_on | (refine ⟨_, fun _ _ => rfl, ?_⟩; go_big_quiet_on)
      refine wpQuiet_nil ?_
      intro Z hZ
      go_wp2
      go_ret
      exact ⟨rfl, HBU.out.trans (hZ.mono HBU.out.size)⟩
    · have hv := (HM3 rfl rfl hpq).out
      simp only [Nm.mk.injEq] at hpq
      have HE := Lib.hid hpq
      clear hpq HM3
      refine wp_region_quiet (C := fun W => Below U.heap.size U W) (by kernel_rfl) (by kernel_rfl) (hY.drew) ?_
      dsimp only
      go_big_quiet_want; refine ⟨.agg #[.int .i64 p0, .int .i64 p1, .int .i64 p2, .int .i64 p3, .int .i64 p4, .int .i64 p5, .int .i64 p6, .bool p7], fun W hW => (by have y0 := (hW.cell (p := ⟨u5.heap.size, 0, none⟩) lC).trans cp0; have y1 := (hW.cell (p := ⟨u5.heap.size, 1, none⟩) lC).trans cp1; have y2 := (hW.cell (p := ⟨u5.heap.size, 2, none⟩) lC).trans cp2; have y3 := (hW.cell (p := ⟨u5.heap.size, 3, none⟩) lC).trans cp3; have y4 := (hW.cell (p := ⟨u5.heap.size, 4, none⟩) lC).trans cp4; have y5 := (hW.cell (p := ⟨u5.heap.size, 5, none⟩) lC).trans cp5; have y6 := (hW.cell (p := ⟨u5.heap.size, 6, none⟩) lC).trans cp6; have y7 := (hW.cell (p := ⟨u5.heap.size, 7, none⟩) lC).trans cp7; simp [Oper.quietAt, Oper.quietUpon, go_sem, y0, y1, y2, y3, y4, y5, y6, y7]), ?_⟩; simp only [Act.put, List.setIfInBounds_toArray, List.set_cons_zero, List.set_cons_succ]; go_big_quiet_on
      go_big_quiet_want; go_big_quiet_op; refine ⟨_, fun W hW => quietCall hW (HOA W).out, ?_⟩; go_big_quiet_on
      go_big_quiet_want; go_big_quiet_op; first | go_big_quiet_on | (refine ⟨_, fun _ _ => rfl, ?_⟩; go_big_quiet_on)
      go_big_quiet_want; go_big_quiet_op; first | go_big_quiet_on | (refine ⟨_, fun _ _ => rfl, ?_⟩; go_big_quiet_on)
      first | go_big_quiet_skip | (go_big_quiet_want; refine ⟨.agg #[.int .i64 q0, .int .i64 q1, .int .i64 q2, .int .i64 q3, .int .i64 q4, .int .i64 q5, .int .i64 q6, .bool q7], fun W hW => (by have y0 := (hW.cell (p := ⟨u5.heap.size + 1, 0, none⟩) lD).trans cq0; have y1 := (hW.cell (p := ⟨u5.heap.size + 1, 1, none⟩) lD).trans cq1; have y2 := (hW.cell (p := ⟨u5.heap.size + 1, 2, none⟩) lD).trans cq2; have y3 := (hW.cell (p := ⟨u5.heap.size + 1, 3, none⟩) lD).trans cq3; have y4 := (hW.cell (p := ⟨u5.heap.size + 1, 4, none⟩) lD).trans cq4; have y5 := (hW.cell (p := ⟨u5.heap.size + 1, 5, none⟩) lD).trans cq5; have y6 := (hW.cell (p := ⟨u5.heap.size + 1, 6, none⟩) lD).trans cq6; have y7 := (hW.cell (p := ⟨u5.heap.size + 1, 7, none⟩) lD).trans cq7; simp [Oper.quietAt, Oper.quietUpon, go_sem, y0, y1, y2, y3, y4, y5, y6, y7]), ?_⟩; simp only [Act.put, List.setIfInBounds_toArray, List.set_cons_zero, List.set_cons_succ]; go_big_quiet_on)
      first | go_big_quiet_skip | (go_big_quiet_want; go_big_quiet_op; refine ⟨_, fun W hW => quietCall hW (HOB W).out, ?_⟩; go_big_quiet_on)
      first | go_big_quiet_skip | (go_big_quiet_want; go_big_quiet_op; first | go_big_quiet_on | (refine ⟨_, fun _ _ => rfl, ?_⟩; go_big_quiet_on))
      go_big_quiet_want; go_big_quiet_op; first | go_big_quiet_on | (refine ⟨_, fun _ _ => rfl, ?_⟩; go_big_quiet_on)
      go_big_quiet_want; go_big_quiet_op; first | go_big_quiet_on | (refine ⟨_, fun _ _ => rfl, ?_⟩; go_big_quiet_on)
      first | go_big_quiet_skip | (go_big_quiet_want; refine ⟨.agg #[.int .i64 p0, .int .i64 p1, .int .i64 p2, .int .i64 p3, .int .i64 p4, .int .i64 p5, .int .i64 p6, .bool p7], fun W hW => (by have y0 := (hW.cell (p := ⟨u5.heap.size, 0, none⟩) lC).trans cp0; have y1 := (hW.cell (p := ⟨u5.heap.size, 1, none⟩) lC).trans cp1; have y2 := (hW.cell (p := ⟨u5.heap.size, 2, none⟩) lC).trans cp2; have y3 := (hW.cell (p := ⟨u5.heap.size, 3, none⟩) lC).trans cp3; have y4 := (hW.cell (p := ⟨u5.heap.size, 4, none⟩) lC).trans cp4; have y5 := (hW.cell (p := ⟨u5.heap.size, 5, none⟩) lC).trans cp5; have y6 := (hW.cell (p := ⟨u5.heap.size, 6, none⟩) lC).trans cp6; have y7 := (hW.cell (p := ⟨u5.heap.size, 7, none⟩) lC).trans cp7; simp [Oper.quietAt, Oper.quietUpon, go_sem, y0, y1, y2, y3, y4, y5, y6, y7]), ?_⟩; simp only [Act.put, List.setIfInBounds_toArray, List.set_cons_zero, List.set_cons_succ]; go_big_quiet_on)
      first | go_big_quiet_skip | (go_big_quiet_want; refine ⟨.agg #[.int .i64 q0, .int .i64 q1, .int .i64 q2, .int .i64 q3, .int .i64 q4, .int .i64 q5, .int .i64 q6, .bool q7], fun W hW => (by have y0 := (hW.cell (p := ⟨u5.heap.size + 1, 0, none⟩) lD).trans cq0; have y1 := (hW.cell (p := ⟨u5.heap.size + 1, 1, none⟩) lD).trans cq1; have y2 := (hW.cell (p := ⟨u5.heap.size + 1, 2, none⟩) lD).trans cq2; have y3 := (hW.cell (p := ⟨u5.heap.size + 1, 3, none⟩) lD).trans cq3; have y4 := (hW.cell (p := ⟨u5.heap.size + 1, 4, none⟩) lD).trans cq4; have y5 := (hW.cell (p := ⟨u5.heap.size + 1, 5, none⟩) lD).trans cq5; have y6 := (hW.cell (p := ⟨u5.heap.size + 1, 6, none⟩) lD).trans cq6; have y7 := (hW.cell (p := ⟨u5.heap.size + 1, 7, none⟩) lD).trans cq7; simp [Oper.quietAt, Oper.quietUpon, go_sem, y0, y1, y2, y3, y4, y5, y6, y7]), ?_⟩; simp only [Act.put, List.setIfInBounds_toArray, List.set_cons_zero, List.set_cons_succ]; go_big_quiet_on)
      go_big_quiet_want; refine ⟨.bool false, fun W hW => (by simp [Oper.quietAt, Oper.quietUpon, go_sem]; rw [if8_false HE.out]; exact ⟨rfl, rfl⟩), ?_⟩; simp only [Act.put, List.setIfInBounds_toArray, List.set_cons_zero, List.set_cons_succ]; go_big_quiet_on
      go_big_quiet_want; go_big_quiet_op; first | go_big_quiet_on | (refine ⟨_, fun _ _ => rfl, ?_⟩; go_big_quiet_on)
      go_big_quiet_want; go_big_quiet_op; first | go_big_quiet_on | (refine ⟨_, fun _ _ => rfl, ?_⟩; go_big_quiet_on)
      first | go_big_quiet_skip | (go_big_quiet_want; refine ⟨.agg #[.int .i64 p0, .int .i64 p1, .int .i64 p2, .int .i64 p3, .int .i64 p4, .int .i64 p5, .int .i64 p6, .bool p7], fun W hW => (by have y0 := (hW.cell (p := ⟨u5.heap.size, 0, none⟩) lC).trans cp0; have y1 := (hW.cell (p := ⟨u5.heap.size, 1, none⟩) lC).trans cp1; have y2 := (hW.cell (p := ⟨u5.heap.size, 2, none⟩) lC).trans cp2; have y3 := (hW.cell (p := ⟨u5.heap.size, 3, none⟩) lC).trans cp3; have y4 := (hW.cell (p := ⟨u5.heap.size, 4, none⟩) lC).trans cp4; have y5 := (hW.cell (p := ⟨u5.heap.size, 5, none⟩) lC).trans cp5; have y6 := (hW.cell (p := ⟨u5.heap.size, 6, none⟩) lC).trans cp6; have y7 := (hW.cell (p := ⟨u5.heap.size, 7, none⟩) lC).trans cp7; simp [Oper.quietAt, Oper.quietUpon, go_sem, y0, y1, y2, y3, y4, y5, y6, y7]), ?_⟩; simp only [Act.put, List.setIfInBounds_toArray, List.set_cons_zero, List.set_cons_succ]; go_big_quiet_on)
      first | go_big_quiet_skip | (go_big_quiet_want; refine ⟨.agg #[.int .i64 q0, .int .i64 q1, .int .i64 q2, .int .i64 q3, .int .i64 q4, .int .i64 q5, .int .i64 q6, .bool q7], fun W hW => (by have y0 := (hW.cell (p := ⟨u5.heap.size + 1, 0, none⟩) lD).trans cq0; have y1 := (hW.cell (p := ⟨u5.heap.size + 1, 1, none⟩) lD).trans cq1; have y2 := (hW.cell (p := ⟨u5.heap.size + 1, 2, none⟩) lD).trans cq2; have y3 := (hW.cell (p := ⟨u5.heap.size + 1, 3, none⟩) lD).trans cq3; have y4 := (hW.cell (p := ⟨u5.heap.size + 1, 4, none⟩) lD).trans cq4; have y5 := (hW.cell (p := ⟨u5.heap.size + 1, 5, none⟩) lD).trans cq5; have y6 := (hW.cell (p := ⟨u5.heap.size + 1, 6, none⟩) lD).trans cq6; have y7 := (hW.cell (p := ⟨u5.heap.size + 1, 7, none⟩) lD).trans cq7; simp [Oper.quietAt, Oper.quietUpon, go_sem, y0, y1, y2, y3, y4, y5, y6, y7]), ?_⟩; simp only [Act.put, List.setIfInBounds_toArray, List.set_cons_zero, List.set_cons_succ]; go_big_quiet_on)
      first | go_big_quiet_skip | (go_big_quiet_want; go_big_quiet_op; refine ⟨_, fun W hW => quietCall hW (HIL W).out, ?_⟩; go_big_quiet_on)
      first | go_big_quiet_skip | (go_big_quiet_want; refine ⟨.agg #[.int .i64 q0, .int .i64 q1, .int .i64 q2, .int .i64 q3, .int .i64 q4, .int .i64 q5, .int .i64 q6, .bool q7], fun W hW => (by have y0 := (hW.cell (p := ⟨u5.heap.size + 1, 0, none⟩) lD).trans cq0; have y1 := (hW.cell (p := ⟨u5.heap.size + 1, 1, none⟩) lD).trans cq1; have y2 := (hW.cell (p := ⟨u5.heap.size + 1, 2, none⟩) lD).trans cq2; have y3 := (hW.cell (p := ⟨u5.heap.size + 1, 3, none⟩) lD).trans cq3; have y4 := (hW.cell (p := ⟨u5.heap.size + 1, 4, none⟩) lD).trans cq4; have y5 := (hW.cell (p := ⟨u5.heap.size + 1, 5, none⟩) lD).trans cq5; have y6 := (hW.cell (p := ⟨u5.heap.size + 1, 6, none⟩) lD).trans cq6; have y7 := (hW.cell (p := ⟨u5.heap.size + 1, 7, none⟩) lD).trans cq7; simp [Oper.quietAt, Oper.quietUpon, go_sem, y0, y1, y2, y3, y4, y5, y6, y7]), ?_⟩; simp only [Act.put, List.setIfInBounds_toArray, List.set_cons_zero, List.set_cons_succ]; go_big_quiet_on)
      first | go_big_quiet_skip | (go_big_quiet_want; refine ⟨.agg #[.int .i64 p0, .int .i64 p1, .int .i64 p2, .int .i64 p3, .int .i64 p4, .int .i64 p5, .int .i64 p6, .bool p7], fun W hW => (by have y0 := (hW.cell (p := ⟨u5.heap.size, 0, none⟩) lC).trans cp0; have y1 := (hW.cell (p := ⟨u5.heap.size, 1, none⟩) lC).trans cp1; have y2 := (hW.cell (p := ⟨u5.heap.size, 2, none⟩) lC).trans cp2; have y3 := (hW.cell (p := ⟨u5.heap.size, 3, none⟩) lC).trans cp3; have y4 := (hW.cell (p := ⟨u5.heap.size, 4, none⟩) lC).trans cp4; have y5 := (hW.cell (p := ⟨u5.heap.size, 5, none⟩) lC).trans cp5; have y6 := (hW.cell (p := ⟨u5.heap.size, 6, none⟩) lC).trans cp6; have y7 := (hW.cell (p := ⟨u5.heap.size, 7, none⟩) lC).trans cp7; simp [Oper.quietAt, Oper.quietUpon, go_sem, y0, y1, y2, y3, y4, y5, y6, y7]), ?_⟩; simp only [Act.put, List.setIfInBounds_toArray, List.set_cons_zero, List.set_cons_succ]; go_big_quiet_on)
      first | go_big_quiet_skip | (go_big_quiet_want; go_big_quiet_op; refine ⟨_, fun W hW => quietCall hW (HIM W).out, ?_⟩; go_big_quiet_on)
      first | go_big_quiet_skip | (go_big_quiet_want; go_big_quiet_op; first | go_big_quiet_on | (refine ⟨_, fun _ _ => rfl, ?_⟩; go_big_quiet_on))
      go_big_quiet_want; go_big_quiet_op; first | go_big_quiet_on | (refine ⟨_, fun _ _ => rfl, ?_⟩; go_big_quiet_on)
      go_big_quiet_want; go_big_quiet_op; first | go_big_quiet_on | (refine ⟨_, fun _ _ => rfl, ?_⟩; go_big_quiet_on)
      refine wpQuiet_nil ?_
      intro Z hZ
      go_wp2
      go_ret
      refine ⟨?_, HBU.out.trans (hZ.mono HBU.out.size)⟩
      show Ending.returned (.bool (!(vl == vm))) = _
      rw [show (!(vl == vm)) = true from hv]

set_option maxRecDepth 100000 in
theorem lifted (os : Os) (started : os.Started) (H : Type) (enc : TypeId × Value → H) :
    ReturnsInHanded {} Try.checked os 3 .any (Rows.fnNameSpec.pre6 enc Try.prog Try.f3 Rows.fnNameRow.domain false) (Rows.fnNameSpec.post enc Try.prog Try.f3 false true false false) := by
  refine returnsInHanded_of_change (C := Try.checked) own started (by kernel_rfl) Try.func3
    (ChangeSpec.witness6 (enc := enc) (C := Try.checked) false ⟨#[], #[.slice none 0 0, .slice none 0 0], []⟩ 8 (by kernel_rfl) (by kernel_rfl) (by kernel_rfl) (by kernel_rfl)) ?_
  intro W base args ds gs before hval0 hW hcnd _
  have hval : ∀ (j : Nat) t v, Try.f3.params[j]? = some t → args[j]? = some v → Value.okWide Try.prog W .any base t v := hval0
  have hW' := hW
  obtain ⟨p, q, hA0, hV, rfl, hfz, hnd⟩ := hW
  have hA : DataW.TrodAll enc Try.prog W 0 (fun _ => true) true Try.f3.params.toList args.toList ds p := hA0
  rw [Try.params3] at hA hval
  obtain ⟨v0, vs0, d0, ds0, p0, q0, hargs, rfl, rfl, h0, r0⟩ := trodAll_cons hA
  obtain ⟨v1, vs1, d1, ds1, p1, q1, rfl, rfl, rfl, h1, r1⟩ := trodAll_cons r0
  obtain ⟨rfl, rfl, rfl⟩ := trodAll_nil r1
  obtain rfl : args = #[v0, v1] := by cases args; simp_all
  obtain ⟨rfl, rfl⟩ := trodVars_none hV
  obtain ⟨a0, len0, cap0, rfl⟩ := okWide_slice Try.underlying22 (hval 0 22 v0 rfl rfl)
  have k0 := h0
  have lt0 : ∀ x ∈ p0, x.block < W.heap.size := by obtain ⟨m, hm⟩ := k0; exact DataW.trod_lt m _ _ _ hm
  obtain ⟨z0, w0⟩ : ∃ zs, IsRow .u8 W a0 len0 cap0 zs := by
    obtain ⟨fuel, hf⟩ := h0
    rcases open_ints Try.underlying22 Try.underlying5 (by kernel_rfl) hf with ⟨hcs, _⟩ | ⟨x, l, c, zs, hcs, _, hl, hm, hz, _, hcell, hwz⟩
    · simp [Value.cells] at hcs
      obtain ⟨rfl, rfl, rfl⟩ := hcs
      exact ⟨[], .inl ⟨rfl, rfl, rfl, rfl⟩⟩
    · simp [Value.cells] at hcs
      obtain ⟨rfl, rfl, rfl⟩ := hcs
      exact ⟨zs, .inr ⟨_, rfl, hl, hm, by simpa using hz, hcell, hwz⟩⟩
  obtain ⟨a1, len1, cap1, rfl⟩ := okWide_slice Try.underlying22 (hval 1 22 v1 rfl rfl)
  have k1 := h1
  have lt1 : ∀ x ∈ p1, x.block < W.heap.size := by obtain ⟨m, hm⟩ := k1; exact DataW.trod_lt m _ _ _ hm
  obtain ⟨z1, w1⟩ : ∃ zs, IsRow .u8 W a1 len1 cap1 zs := by
    obtain ⟨fuel, hf⟩ := h1
    rcases open_ints Try.underlying22 Try.underlying5 (by kernel_rfl) hf with ⟨hcs, _⟩ | ⟨x, l, c, zs, hcs, _, hl, hm, hz, _, hcell, hwz⟩
    · simp [Value.cells] at hcs
      obtain ⟨rfl, rfl, rfl⟩ := hcs
      exact ⟨[], .inl ⟨rfl, rfl, rfl, rfl⟩⟩
    · simp [Value.cells] at hcs
      obtain ⟨rfl, rfl, rfl⟩ := hcs
      exact ⟨zs, .inr ⟨_, rfl, hl, hm, by simpa using hz, hcell, hwz⟩⟩
  clear hA0 hval0
  refine (walk a0 len0 cap0 z0 a1 len1 cap1 z1 W w0 w1).mono fun e W' ⟨he, bel⟩ => ?_
  subst he
  exact ⟨_, rfl, _, _, _, [], _, [], hW', trodAll_mk1 (shut_bool Try.underlying4 _), (trodAll_cons_mk (Below.trod laidOut (by kernel_rfl) (of_decide_eq_true (by kernel_rfl)) k0 bel lt0) (trodAll_cons_mk (Below.trod laidOut (by kernel_rfl) (of_decide_eq_true (by kernel_rfl)) k1 bel lt1) trodAll_mk0)), rfl, bel.frame _, fun h => by cases h⟩

theorem over : Rows.fnNameRow.holds Try.pinned (OpenSpec.ofChange Rows.fnNameSpec) :=
  OpenClaim.holds_of_wide 3 Try.f3 rfl rfl rfl rfl rfl rfl rfl ⟨rfl, rfl, rfl, rfl, rfl⟩ rfl rfl rfl rfl rfl (by kernel_rfl) Try.func3 (by kernel_rfl)
    (of_decide_eq_true (by kernel_rfl)) (by unfold Func.isWrapper; first | (rw [if_pos (by decide +kernel)]; kernel_rfl) | (rw [if_neg (by decide +kernel)]; exact ⟨rfl, rfl⟩))
    (fun os started H enc _ => lifted os started H enc)

/-- ████ THE STATEMENT ████ -/
theorem proved : Rows.FnNameSaid := over
#print axioms proved
end Go.Proofs.Ytnfedciblgapmaa.fnName
