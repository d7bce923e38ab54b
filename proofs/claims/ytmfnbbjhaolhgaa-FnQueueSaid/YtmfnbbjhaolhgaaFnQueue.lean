/- Of drawn Queues: what waits goes out by its numbers, all of several come in or none, and what goes out never falls. For every two lists of bytes from which the inputs are drawn. -/
import Derived.Test.YtmfnbbjhaolhgaaRows
import Derived.Test.YtmfnbbjhaolhgaaQueueLaw
import Derived.Test.YtmfnbbjhaolhgaaSpecClear
import Derived.Test.YtmfnbbjhaolhgaaDrawQueue2
import Derived.Test.YtmfnbbjhaolhgaaDrawQueue3
import Derived.WalkKit
import Derived.ProofKit
import Derived.OpenShut
import Derived.ShutString
import Derived.ChangeOld
import Derived.Below
namespace Go.Proofs.Ytmfnbbjhaolhgaa.fnQueue
open Go.ChangeShapes Go.WideShapes Go.ChangeAt Go.RowKit
open Go.ChangeMaps (open_string shut_string)
set_option linter.unusedVariables false

theorem own : ownKnob Try.prog.godebug = none := by kernel_rfl
theorem laidOut : laidOutB Try.prog = true := by kernel_rfl

/-- WHAT THE WALK IS TOLD OF A SLICE OF INTEGERS THAT CAME IN: it is nil; or it leads to a row of 'cap' cells, the numbers 'zs' (the first 'len' are its elements, the rest its spare room), each fitting its kind. -/
def IsRow (k : IntKind) (w : World) (a : Option Addr) (len cap : Nat) (zs : List Int) : Prop :=
  (a = none ∧ len = 0 ∧ cap = 0 ∧ zs = []) ∨
  ∃ x, a = some x ∧ len ≤ cap ∧ cap ≤ maxLen ∧ zs.length = cap ∧ (∀ i, i < zs.length → w.cell? (x.add i) = some (.int k (zs.getD i 0))) ∧ ∀ n ∈ zs, (Lit.int k n).wf = true

set_option maxRecDepth 100000 in
set_option maxHeartbeats 100000000 in
theorem walk (a0 : Option Addr) (len0 cap0 : Nat) (z0 : List Int) (a1 : Option Addr) (len1 cap1 : Nat) (z1 : List Int) (w : World) (w0 : IsRow .u8 w a0 len0 cap0 z0) (w1 : IsRow .u8 w a1 len1 cap1 z1) :
    Calls Try.prog 3 #[.slice a0 len0 cap0, .slice a1 len1 cap1] w fun e w' => e = .returned (.bool true) ∧ Below w.heap.size w w' := by
  obtain ⟨r0, b0⟩ := rowIn_mk w0
  obtain ⟨r1, b1⟩ := rowIn_mk w1
  clear w0 w1
  by_cases hbig : 1048576 < len0
  · have hd : decide (1048576 < (len0 : Int)) = true := by simp; omega
    go_enter Try.func3, Try.ntmps3
    go_wp2_with fail
    go_ret
    exact ⟨rfl, Below.refl _ _⟩
  have hd0 : decide (1048576 < (len0 : Int)) = false := by simp; omega
  by_cases hbig1 : 1048576 < len1
  · have hd : decide (1048576 < (len1 : Int)) = true := by simp; omega
    go_enter Try.func3, Try.ntmps3
    go_wp2_with fail
    go_ret
    exact ⟨rfl, Below.refl _ _⟩
  have hd1 : decide (1048576 < (len1 : Int)) = false := by simp; omega
  have R0 := Lib.hid r0
  have B0 := Lib.hid b0
  have R1 := Lib.hid r1
  have B1 := Lib.hid b1
  have l0 : len0 ≤ 1048576 := by omega
  have l1 : len1 ≤ 1048576 := by omega
  clear r0 b0 r1 b1 hbig hbig1
  have KP0 : ∀ U, Below w.heap.size w U → Hid (RowIn U a0 len0 z0 ∧ (0 < len0 → ∀ b o, a0 = some ⟨b, o, none⟩ → b < U.heap.size)) := fun U h => Lib.hid ⟨R0.out.kept h B0.out, fun q b o e => Nat.lt_of_lt_of_le (B0.out q b o e) h.size⟩
  have KP1 : ∀ U, Below w.heap.size w U → Hid (RowIn U a1 len1 z1 ∧ (0 < len1 → ∀ b o, a1 = some ⟨b, o, none⟩ → b < U.heap.size)) := fun U h => Lib.hid ⟨R1.out.kept h B1.out, fun q b o e => Nat.lt_of_lt_of_le (B1.out q b o e) h.size⟩
  have K0 := KP0 w (Below.refl _ _)
  go_enter Try.func3, Try.ntmps3
  go_wp2_with fail
  refine (drawPut_any K0.out.1 l0 K0.out.2).mono ?_
  rintro e u1 ⟨qa, la, qc, lc, q, l, rfl, hqc, hi1, hk1, hl1, hi2, hk2, hl2, h1⟩
  have H1 := Lib.hid ((((Hold.first h1).addCans hi1).addCans hi2).addRow #[.slice qa q.length qc] 25)
  have HKq := Lib.hid hk1
  have HKl := Lib.hid hk2
  obtain ⟨L1, hL1⟩ : ∃ L, putL q l = L := ⟨_, rfl⟩
  obtain ⟨k1, hk1'⟩ : ∃ k, putCode q l = k := ⟨_, rfl⟩
  have HIP := fun W (h1 : CansIn W qa q) (h2 : CansIn W la l) => Lib.hid (implQueuePut_any qa la qc lc q l W h1 HKq.out (by omega) h2 HKl.out (by omega))
  have HSP := fun W (h1 : CansIn W qa q) (h2 : CansIn W la l) => Lib.hid (specQueuePut_any qa la qc lc q l W h1 HKq.out (by omega) h2 HKl.out (by omega))
  have HR1 := Lib.hid (fun h : putCode q l = 0 => putL_right h)
  have HN1 := Lib.hid (fun h : putCode q l = 0 => putL_len h)
  have HK1 : Hid (CansOk (putL q l)) := Lib.hid (by
    unfold putL
    split
    · exact HKq.out.append HKl.out
    · intro x hx; cases hx)
  have HM1 : Hid ((putL q l).length ≤ 21) := Lib.hid (by
    unfold putL
    split
    · simp; omega
    · simp)
  rw [hL1, hk1'] at HIP HSP HR1 HN1
  rw [hL1] at HK1 HM1
  clear hi1 hi2 h1 hk1 hk2 K0 hL1 hk1'
  have hL1 := HM1.out
  go_wp2_with fail
  refine (HIP _ (H1.out.in (a := qa) (l := q) (by simp)) (H1.out.in (a := la) (l := l) (by simp))).out.mono ?_
  rintro e u2 ⟨xa, xc, rfl, hxc, hnx, h2⟩
  have H2 := Lib.hid (((H1.out.kept h2).addCans hnx.cans).addRow #[.slice xa L1.length xc, .int .i64 0, .string ⟨#[]⟩, .int .i64 k1] 31)
  have K2 := KP1 (u2.alloc (.cells #[.slice xa L1.length xc, .int .i64 0, .string ⟨#[]⟩, .int .i64 k1] 31)) H2.out.below
  clear hnx h2 H1 hxc HIP
  go_wp2_with fail
  refine (drawTake_any K2.out.1 l1 K2.out.2).mono ?_
  rintro e u3 ⟨ta, tc, T, rfl, htc, hi3, hk3, hl3, h3⟩
  have H3 := Lib.hid (((H2.out.kept h3).addCans hi3).addRow #[.slice ta T.length tc] 25)
  have HKT := Lib.hid hk3
  have HTL3 := Lib.hid ((CansLt.of hi3).kept ((Below.refl _ _).alloc (Nat.le_refl _) (.cells #[.slice ta T.length tc] 25)) (Nat.le_refl _))
  obtain ⟨L2, eL2⟩ : ∃ L, takeL T = L := ⟨_, rfl⟩
  obtain ⟨y, hy⟩ : ∃ y, takeC T = y := ⟨_, rfl⟩
  obtain ⟨k2, hk2⟩ : ∃ k, takeCode T = k := ⟨_, rfl⟩
  have HIT := fun W (h1 : CansIn W ta T) => Lib.hid (implQueueTake_any ta tc T W h1 HKT.out (by omega) htc)
  have HST := fun W (h1 : CansIn W ta T) => Lib.hid (specQueueTake_any ta tc T W h1 HKT.out (by omega) htc)
  have HR2 := Lib.hid (fun h : takeCode T = 0 => takeL_right h)
  have HK2 : Hid (CansOk (takeL T)) := Lib.hid (by
    intro x hx
    by_cases hz : takeCode T = 0
    · exact HKT.out x (takeL_sub hz x hx)
    · rw [show takeL T = [] from if_neg hz] at hx
      cases hx)
  have HM2 : Hid ((takeL T).length ≤ 17) := Lib.hid (by
    by_cases hz : takeCode T = 0
    · have := takeL_len hz; omega
    · rw [show takeL T = [] from if_neg hz]; simp)
  rw [eL2, hk2, hy] at HIT HST
  have HL2 := Lib.hid eL2
  have Hk2 := Lib.hid hk2
  have Hy := Lib.hid hy
  rw [eL2] at HK2 HM2
  rw [eL2, hk2] at HR2
  obtain ⟨n, s⟩ := y
  simp only at HIT HST
  have HTC := Lib.hid htc
  clear hi3 h3 hk3 K2 H2 hy hk2 eL2 htc
  have hL2 := HM2.out
  go_wp2_with fail
  refine (HIT _ (H3.out.in (a := ta) (l := T) (by simp))).out.mono ?_
  rintro e u4 ⟨ya, yc, rfl, hyc, hny, h4⟩
  have H4 := Lib.hid (((H3.out.kept h4).addCans hny.cans).addRow #[.slice ya L2.length yc, .int .i64 n, .string s, .int .i64 k2] 31)
  have HYc := Lib.hid hyc
  have hw4 : w.heap.size ≤ u4.heap.size := Nat.le_trans H3.out.below.size h4.size
  have hs3 : u3.heap.size < u4.heap.size := by have := h4.size; simp at this; omega
  have HTL4 := Lib.hid ((HTL3.out.kept h4 (by simp)).kept ((Below.refl _ _).alloc (Nat.le_refl _) (.cells #[.slice ya L2.length yc, .int .i64 n, .string s, .int .i64 k2] 31)) (by omega))
  have HNY := Lib.hid (hny.kept ((Below.refl _ _).alloc (Nat.le_refl _) (.cells #[.slice ya L2.length yc, .int .i64 n, .string s, .int .i64 k2] 31)))
  have K4 := KP0 (u4.alloc (.cells #[.slice ya L2.length yc, .int .i64 n, .string s, .int .i64 k2] 31)) H4.out.below
  clear hny h4 H3 hyc HTL3
  go_wp2_with fail
  refine (drawClear_any K4.out.1 l0 K4.out.2).mono ?_
  rintro e u5 ⟨ca, cc, C, src, rfl, hcc, hi5, hk5, hl5, h5⟩
  have HU := (((H4.out.kept h5).addCans hi5).addRow #[.slice ca C.length cc] 25)
  have HNU := Lib.hid ((HNY.out.kept h5).kept ((Below.refl _ _).alloc (Nat.le_refl _) (.cells #[.slice ca C.length cc] 25)))
  have HTL := Lib.hid ((HTL4.out.kept h5 (by simp; omega)).kept ((Below.refl _ _).alloc (Nat.le_refl _) (.cells #[.slice ca C.length cc] 25)) (by have := h5.size; simp at this; omega))
  have HKC := Lib.hid hk5
  have HIC := fun W (h1 : CansIn W ca C) => Lib.hid (implQueueClear_any ca cc C src W h1 HKC.out (by omega))
  have HSC := fun W (h1 : CansIn W ca C) => Lib.hid (specQueueClear_any ca cc C src W h1 HKC.out (by omega))
  obtain ⟨L3, hL3⟩ : ∃ L, clearL C src = L := ⟨_, rfl⟩
  have hL3' : L3.length ≤ 17 := by
    rw [← hL3]
    unfold clearL
    split
    · have := List.length_filter_le (otherB src) C; omega
    · simp
  rw [hL3] at HIC HSC
  have HIQ := fun W (h1 : CansIn W qa q) => Lib.hid (implQueueRight_any qa qc q W h1 HKq.out (by omega))
  have HSQ := fun W (h1 : CansIn W qa q) => Lib.hid (specQueueRight_any qa qc q W h1 HKq.out (by omega))
  have hs4 : u4.heap.size < u5.heap.size := by have := h5.size; simp at this; omega
  have HU := Lib.hid HU
  clear h5 hi5 hk5 H4 HNY K4 hL3 HTL4
  go_wp2_with fail
  generalize (u5.alloc (.cells #[.slice ca C.length cc] 25)) = U at *
  have X0 := HU.out.get (R := u2.heap.size) (vs := [.slice xa L1.length xc, .int .i64 0, .string ⟨#[]⟩, .int .i64 k1]) (by simp) 0 _ rfl
  have X1 := HU.out.get (R := u2.heap.size) (vs := [.slice xa L1.length xc, .int .i64 0, .string ⟨#[]⟩, .int .i64 k1]) (by simp) 1 _ rfl
  have X2 := HU.out.get (R := u2.heap.size) (vs := [.slice xa L1.length xc, .int .i64 0, .string ⟨#[]⟩, .int .i64 k1]) (by simp) 2 _ rfl
  have X3 := HU.out.get (R := u2.heap.size) (vs := [.slice xa L1.length xc, .int .i64 0, .string ⟨#[]⟩, .int .i64 k1]) (by simp) 3 _ rfl
  have Q0 := HU.out.get (R := u1.heap.size) (vs := [.slice qa q.length qc]) (by simp) 0 _ rfl
  have Y0 := HU.out.get (R := u4.heap.size) (vs := [.slice ya L2.length yc, .int .i64 n, .string s, .int .i64 k2]) (by simp) 0 _ rfl
  have Y1 := HU.out.get (R := u4.heap.size) (vs := [.slice ya L2.length yc, .int .i64 n, .string s, .int .i64 k2]) (by simp) 1 _ rfl
  have Y2 := HU.out.get (R := u4.heap.size) (vs := [.slice ya L2.length yc, .int .i64 n, .string s, .int .i64 k2]) (by simp) 2 _ rfl
  have Y3 := HU.out.get (R := u4.heap.size) (vs := [.slice ya L2.length yc, .int .i64 n, .string s, .int .i64 k2]) (by simp) 3 _ rfl
  have T0 := HU.out.get (R := u3.heap.size) (vs := [.slice ta T.length tc]) (by simp) 0 _ rfl
  have C0 := HU.out.get (R := u5.heap.size) (vs := [.slice ca C.length cc]) (by simp) 0 _ rfl
  have lX := HU.out.lt (R := u2.heap.size) (vs := [.slice xa L1.length xc, .int .i64 0, .string ⟨#[]⟩, .int .i64 k1]) (by simp)
  have lQ := HU.out.lt (R := u1.heap.size) (vs := [.slice qa q.length qc]) (by simp)
  have lY := HU.out.lt (R := u4.heap.size) (vs := [.slice ya L2.length yc, .int .i64 n, .string s, .int .i64 k2]) (by simp)
  have lT := HU.out.lt (R := u3.heap.size) (vs := [.slice ta T.length tc]) (by simp)
  have lC := HU.out.lt (R := u5.heap.size) (vs := [.slice ca C.length cc]) (by simp)
  have hS : ∀ W, Below U.heap.size U W → ((W.cell? ⟨u2.heap.size, 0, none⟩ = some (.slice xa L1.length xc) ∧ W.cell? ⟨u2.heap.size, 1, none⟩ = some (.int .i64 0) ∧ W.cell? ⟨u2.heap.size, 2, none⟩ = some (.string ⟨#[]⟩) ∧ W.cell? ⟨u2.heap.size, 3, none⟩ = some (.int .i64 k1) ∧ W.cell? ⟨u1.heap.size, 0, none⟩ = some (.slice qa q.length qc) ∧ W.cell? ⟨u4.heap.size, 0, none⟩ = some (.slice ya L2.length yc) ∧ W.cell? ⟨u4.heap.size, 1, none⟩ = some (.int .i64 n) ∧ W.cell? ⟨u4.heap.size, 2, none⟩ = some (.string s) ∧ W.cell? ⟨u4.heap.size, 3, none⟩ = some (.int .i64 k2) ∧ W.cell? ⟨u3.heap.size, 0, none⟩ = some (.slice ta T.length tc) ∧ W.cell? ⟨u5.heap.size, 0, none⟩ = some (.slice ca C.length cc)) ∧ Below U.heap.size U W) := fun W hW => ⟨⟨(hW.cell (p := ⟨u2.heap.size, 0, none⟩) lX).trans X0, (hW.cell (p := ⟨u2.heap.size, 1, none⟩) lX).trans X1, (hW.cell (p := ⟨u2.heap.size, 2, none⟩) lX).trans X2, (hW.cell (p := ⟨u2.heap.size, 3, none⟩) lX).trans X3, (hW.cell (p := ⟨u1.heap.size, 0, none⟩) lQ).trans Q0, (hW.cell (p := ⟨u4.heap.size, 0, none⟩) lY).trans Y0, (hW.cell (p := ⟨u4.heap.size, 1, none⟩) lY).trans Y1, (hW.cell (p := ⟨u4.heap.size, 2, none⟩) lY).trans Y2, (hW.cell (p := ⟨u4.heap.size, 3, none⟩) lY).trans Y3, (hW.cell (p := ⟨u3.heap.size, 0, none⟩) lT).trans T0, (hW.cell (p := ⟨u5.heap.size, 0, none⟩) lC).trans C0⟩, hW⟩
  have hfld := run_field_queue
  have hCall : ∀ W W', ((W.cell? ⟨u2.heap.size, 0, none⟩ = some (.slice xa L1.length xc) ∧ W.cell? ⟨u2.heap.size, 1, none⟩ = some (.int .i64 0) ∧ W.cell? ⟨u2.heap.size, 2, none⟩ = some (.string ⟨#[]⟩) ∧ W.cell? ⟨u2.heap.size, 3, none⟩ = some (.int .i64 k1) ∧ W.cell? ⟨u1.heap.size, 0, none⟩ = some (.slice qa q.length qc) ∧ W.cell? ⟨u4.heap.size, 0, none⟩ = some (.slice ya L2.length yc) ∧ W.cell? ⟨u4.heap.size, 1, none⟩ = some (.int .i64 n) ∧ W.cell? ⟨u4.heap.size, 2, none⟩ = some (.string s) ∧ W.cell? ⟨u4.heap.size, 3, none⟩ = some (.int .i64 k2) ∧ W.cell? ⟨u3.heap.size, 0, none⟩ = some (.slice ta T.length tc) ∧ W.cell? ⟨u5.heap.size, 0, none⟩ = some (.slice ca C.length cc)) ∧ Below U.heap.size U W) → Below W.heap.size W W' → ((W'.cell? ⟨u2.heap.size, 0, none⟩ = some (.slice xa L1.length xc) ∧ W'.cell? ⟨u2.heap.size, 1, none⟩ = some (.int .i64 0) ∧ W'.cell? ⟨u2.heap.size, 2, none⟩ = some (.string ⟨#[]⟩) ∧ W'.cell? ⟨u2.heap.size, 3, none⟩ = some (.int .i64 k1) ∧ W'.cell? ⟨u1.heap.size, 0, none⟩ = some (.slice qa q.length qc) ∧ W'.cell? ⟨u4.heap.size, 0, none⟩ = some (.slice ya L2.length yc) ∧ W'.cell? ⟨u4.heap.size, 1, none⟩ = some (.int .i64 n) ∧ W'.cell? ⟨u4.heap.size, 2, none⟩ = some (.string s) ∧ W'.cell? ⟨u4.heap.size, 3, none⟩ = some (.int .i64 k2) ∧ W'.cell? ⟨u3.heap.size, 0, none⟩ = some (.slice ta T.length tc) ∧ W'.cell? ⟨u5.heap.size, 0, none⟩ = some (.slice ca C.length cc)) ∧ Below U.heap.size U W') := fun W W' h hb => hS W' (h.2.trans (hb.mono h.2.size))
  have HS := Lib.hid hS
  have HCall := Lib.hid hCall
  have hbl : ∀ W, ((W.cell? ⟨u2.heap.size, 0, none⟩ = some (.slice xa L1.length xc) ∧ W.cell? ⟨u2.heap.size, 1, none⟩ = some (.int .i64 0) ∧ W.cell? ⟨u2.heap.size, 2, none⟩ = some (.string ⟨#[]⟩) ∧ W.cell? ⟨u2.heap.size, 3, none⟩ = some (.int .i64 k1) ∧ W.cell? ⟨u1.heap.size, 0, none⟩ = some (.slice qa q.length qc) ∧ W.cell? ⟨u4.heap.size, 0, none⟩ = some (.slice ya L2.length yc) ∧ W.cell? ⟨u4.heap.size, 1, none⟩ = some (.int .i64 n) ∧ W.cell? ⟨u4.heap.size, 2, none⟩ = some (.string s) ∧ W.cell? ⟨u4.heap.size, 3, none⟩ = some (.int .i64 k2) ∧ W.cell? ⟨u3.heap.size, 0, none⟩ = some (.slice ta T.length tc) ∧ W.cell? ⟨u5.heap.size, 0, none⟩ = some (.slice ca C.length cc)) ∧ Below U.heap.size U W) → Below U.heap.size U W := fun W h => h.2
  have HBl := Lib.hid hbl
  clear hS hCall hbl
  go_region_held3 (fun W => (W.cell? ⟨u2.heap.size, 0, none⟩ = some (.slice xa L1.length xc) ∧ W.cell? ⟨u2.heap.size, 1, none⟩ = some (.int .i64 0) ∧ W.cell? ⟨u2.heap.size, 2, none⟩ = some (.string ⟨#[]⟩) ∧ W.cell? ⟨u2.heap.size, 3, none⟩ = some (.int .i64 k1) ∧ W.cell? ⟨u1.heap.size, 0, none⟩ = some (.slice qa q.length qc) ∧ W.cell? ⟨u4.heap.size, 0, none⟩ = some (.slice ya L2.length yc) ∧ W.cell? ⟨u4.heap.size, 1, none⟩ = some (.int .i64 n) ∧ W.cell? ⟨u4.heap.size, 2, none⟩ = some (.string s) ∧ W.cell? ⟨u4.heap.size, 3, none⟩ = some (.int .i64 k2) ∧ W.cell? ⟨u3.heap.size, 0, none⟩ = some (.slice ta T.length tc) ∧ W.cell? ⟨u5.heap.size, 0, none⟩ = some (.slice ca C.length cc)) ∧ Below U.heap.size U W)
    (first | assumption | (with_reducible exact HS.out _ (Below.refl _ _).drew) | (with_reducible exact HCall.out _ _ (by assumption) (by assumption)))
    (first
      | (go_at_call 14; (with_reducible refine (HSP _ ((HU.out.in (a := qa) (l := q) (by simp)).kept (HBl.out _ (by assumption))) ((HU.out.in (a := la) (l := l) (by simp)).kept (HBl.out _ (by assumption)))).out.mono ?_); rintro e v1 ⟨pa, pc, rfl, hpc, hp1, g1⟩; have HP1 := Lib.hid hp1.cans; clear hpc hp1)
      | (go_at_call 13; (with_reducible refine (lwQueue_same xa pa xc pc L1 0 ⟨#[]⟩ k1 _ ((HU.out.in (a := xa) (l := L1) (by simp)).kept (HBl.out _ (by assumption))) HP1.out HK1.out (by omega) HR1.out).mono ?_); rintro e v2 ⟨rfl, g2⟩)
      | (go_at_call 15; (with_reducible refine (HST _ ((HU.out.in (a := ta) (l := T) (by simp)).kept (HBl.out _ (by assumption)))).out.mono ?_); rintro e v3 ⟨pb, pd, rfl, hpd, hp3, g3⟩; have HP3 := Lib.hid hp3.cans; clear hpd hp3)
      | (go_at_call 13; (with_reducible refine (lwQueue_same ya pb yc pd L2 n s k2 _ ((HU.out.in (a := ya) (l := L2) (by simp)).kept (HBl.out _ (by assumption))) HP3.out HK2.out (by omega) HR2.out).mono ?_); rintro e v4 ⟨rfl, g4⟩)
      | (go_at_call 17; (with_reducible refine (HIC _ ((HU.out.in (a := ca) (l := C) (by simp)).kept (HBl.out _ (by assumption)))).out.mono ?_); rintro e v5 ⟨pe, pf, rfl, hpf, hp5, g5⟩; have HP5 := Lib.hid hp5.cans; clear hpf hp5)
      | (go_at_call 18; (with_reducible refine (HSC _ ((HU.out.in (a := ca) (l := C) (by simp)).kept (HBl.out _ (by assumption)))).out.mono ?_); rintro e v6 ⟨pg, ph, rfl, hph, hp6, g6⟩; have HP6 := Lib.hid hp6.cans; have HP5' := Lib.hid (HP5.out.kept g6); clear hph hp6)
      | (go_at_call 16; (with_reducible refine (lwCans_same pe pg pf ph L3 _ HP5'.out HP6.out (by omega)).mono ?_); rintro e v7 ⟨rfl, g7⟩)
      | (go_at_call 19; (with_reducible refine (HIQ _ ((HU.out.in (a := qa) (l := q) (by simp)).kept (HBl.out _ (by assumption)))).out.mono ?_); rintro e v8 ⟨rfl, g8⟩)
      | (go_at_call 20; (with_reducible refine (HSQ _ ((HU.out.in (a := qa) (l := q) (by simp)).kept (HBl.out _ (by assumption)))).out.mono ?_); rintro e v9 ⟨rfl, g9⟩))
  rename_i hHeld
  have bV := HBl.out _ hHeld
  have HV := Lib.hid (HU.out.kept bV)
  have HTV := Lib.hid (HTL.out.kept bV (Nat.le_of_lt lT))
  have HNV := Lib.hid (HNU.out.kept bV)
  obtain ⟨⟨x0, x1, x2, x3, q0, y0, y1, y2, y3, t0, c0⟩, _⟩ := hHeld
  clear g1 g2 g3 g4 g5 g6 g7 g8 g9 HP1 HP3 HP5 HP5' HP6 X0 X1 X2 X3 Q0 Y0 Y1 Y2 Y3 T0 C0 HSP HST HIC HSC HIQ HSQ HS HCall HBl
  have HB0 := Lib.hid HV.out.below
  have hreg : ∃ d : Bool, (k1 == 0) = d ∧ (d = true → L1.length = q.length + l.length) := by
    by_cases h : k1 = 0
    · exact ⟨true, by simp [h], fun _ => HN1.out h⟩
    · exact ⟨false, by simp [h], fun h => by cases h⟩
  obtain ⟨d, hd, hn⟩ := hreg
  have hwl : IntKind.i64.wrap ((q.length : Int) + (l.length : Int)) = (q.length : Int) + l.length := IntWalk.i64_in _ (by omega)
  have key : True := trivial
  cases d with
  | false =>
    go_wp2_with fail
    clear hd hn hwl key
    cases hT : qRightB T with
    | false =>
      have hk21 : k2 = 1 := by rw [← Hk2.out]; exact takeCode_form hT
      have hp := not_right_pos hT
      have dl : decide ((0 : Int) < (T.length : Int)) = true := by simp; omega
      have dz : ((T.length : Int) == 0) = false := beq_eq_false_iff_ne.2 (by omega)
      rw [hk21] at y3
      refine wp_loop_rounds 1 ?_
      rw [rounds_succ]
      go_wp2_with fail
      refine (specQueueRight_any ta tc T _ HTV.out.cans HKT.out (by omega)).mono ?_
      rintro e v10 ⟨rfl, g10⟩
      rw [hT]
      go_wp2_with fail
      go_ret
      exact ⟨rfl, HB0.out.trans (g10.mono HB0.out.size)⟩
    | true =>
      have hT16 := (qRightB_of hT).1
      have hyr : RowAt v9 u4.heap.size [.slice ya (takeL T).length yc, .int .i64 (takeC T).1, .string (takeC T).2, .int .i64 (takeCode T)] := by
        rw [HL2.out, Hk2.out, Hy.out]
        exact HV.out.row (u4.heap.size, [.slice ya L2.length yc, .int .i64 n, .string s, .int .i64 k2]) (by simp)
      have HYR := Lib.hid hyr
      clear hyr
      go_loopw [12, 13] (fun u i wr => ∃ (k : Nat) (P : List (Int × ByteArray)) (last : Int) (ad : Option Addr) (c lo hi : Nat), i = .int .i64 (k : Int) ∧ u = .int .i64 last ∧ k + P.length = T.length ∧ qRightB P = true ∧ CansOk P ∧ (∀ x ∈ P, last ≤ x.1) ∧ Below u4.heap.size v9 wr ∧ RowAt wr u4.heap.size [.slice ad (takeL P).length c, .int .i64 (takeC P).1, .string (takeC P).2, .int .i64 (takeCode P)] ∧ (takeL P).length ≤ c ∧ NewIn lo hi wr ad (takeL P) ∧ (hi ≤ u4.heap.size ∨ u4.heap.size < lo)) (fun _ i _ => T.length - (intOf i).toNat)
      case atStart =>
        exact ⟨0, T, -1, ya, yc, _, _, rfl, rfl, by omega, hT, HKT.out, right_lo hT, Below.refl _ _, HYR.out, by rw [HL2.out]; exact HYc.out, by rw [HL2.out]; exact HNV.out, .inl (Nat.le_refl _)⟩
      case round =>
        obtain ⟨k, P, last, ad, c, lo, hi, rfl, rfl, hlen, hP, hPok, hlo, hb, hrow, hcap, hnew, hdis⟩ := hrel
        have t1 := (hb.cell (p := ⟨u3.heap.size, 0, none⟩) hs3).trans t0
        clear t0 y0 y1 y2 y3 x0 x1 x2 x3 q0 c0
        have HB1 := Lib.hid hb
        have HB2 := Lib.hid (HB0.out.trans (hb.mono hw4))
        by_cases hp : P.length = 0
        · rw [takeCode_none hP hp] at hrow
          have r3 := hrow.get 3 _ rfl
          have HRx := Lib.hid hrow
          have dl : decide ((k : Int) < (T.length : Int)) = false := by simp; omega
          clear hrow hnew hcap hlo hPok hP hb
          by_cases hz : T.length = 0
          · have dz : ((T.length : Int) == 0) = true := by simp [hz]
            go_wp2_with fail
            go_ret
            exact ⟨rfl, HB2.out⟩
          · have dz : ((T.length : Int) == 0) = false := beq_eq_false_iff_ne.2 (by omega)
            go_wp2_with fail
            refine (specQueueRight_any ta tc T _ (HTV.out.kept HB1.out (Nat.le_of_lt hs3)).cans HKT.out (by omega)).mono ?_
            rintro e z1 ⟨rfl, g1⟩
            rw [hT]
            have r4 := (HRx.out.kept g1).get 3 _ rfl
            go_wp2_with fail
            go_ret
            exact ⟨rfl, HB2.out.trans (g1.mono HB2.out.size)⟩
        · have hcode := takeCode_ok hP hp
          have hl0 := hlo _ (takeC_mem hcode)
          have F0 := takeL_len hcode
          have F1 := Lib.hid (takeL_right hcode)
          have F2 := Lib.hid (fun x hx => hPok x (takeL_sub hcode x hx) : CansOk (takeL P))
          have F3 := Lib.hid (fun x hx => takeC_least hcode x (takeL_sub hcode x hx) : ∀ x ∈ takeL P, (takeC P).1 ≤ x.1)
          rw [hcode] at hrow
          generalize takeL P = M at *
          generalize takeC P = y at *
          obtain ⟨m, b⟩ := y
          simp only at hrow hl0
          have HR := Lib.hid hrow
          have HN := Lib.hid hnew
          have r0 := hrow.get 0 _ rfl
          have r1 := hrow.get 1 _ rfl
          have r2 := hrow.get 2 _ rfl
          have r3 := hrow.get 3 _ rfl
          have hYl := hrow.lt
          have dl : decide ((k : Int) < (T.length : Int)) = true := by simp; omega
          have dm : decide (m < last) = false := by simp; omega
          have hw1 : IntKind.i64.wrap ((T.length : Int) - 1) = (T.length : Int) - 1 := IntWalk.i64_in _ (by omega)
          have hw2 : IntKind.i64.wrap ((T.length : Int) - 1 - (k : Int)) = (M.length : Int) := by rw [IntWalk.i64_in _ (by omega)]; omega
          have hbe : ((M.length : Int) != (M.length : Int)) = false := by simp
          have HC := Lib.hid (implQueueTake_any ad c M wr hnew.cans F2.out (by omega) hcap)
          clear hrow hnew hlo hPok hP hcode hb
          go_wp2_with fail
          refine HC.out.mono ?_
          rintro e z ⟨ad2, c2, rfl, hc2, hn2, hz⟩
          have HRz := Lib.hid (HR.out.kept hz)
          have z0 := HRz.out.get 0 _ rfl
          have z1 := HRz.out.get 1 _ rfl
          have z2 := HRz.out.get 2 _ rfl
          have z3 := HRz.out.get 3 _ rfl
          have f0 := HRz.out.free 0
          have f1 := HRz.out.free 1
          have f2 := HRz.out.free 2
          have f3 := HRz.out.free 3
          have HZ := Lib.hid hz
          have HN2 := Lib.hid hn2
          clear hz hn2
          go_wp2_with fail
          refine ⟨⟨k + 1, M, m, ad2, c2, wr.heap.size, z.heap.size, ?ga, rfl, ?gb, F1.out, F2.out, F3.out, ?gc, ?gd, hc2, ?ge, .inr hYl⟩, ?gf⟩
          case ga => exact congrArg (Value.int .i64) (by omega)
          case gb => omega
          case gc => exact ((((HB1.out.trans (HZ.out.mono (Nat.le_of_lt hYl))).setCell (Nat.le_refl _) _).setCell (Nat.le_refl _) _).setCell (Nat.le_refl _) _).setCell (Nat.le_refl _) _
          case gd => exact HRz.out.put4 _ _ _ _
          case ge => exact HN2.out.put4 (.inr hYl) _ _ _ _
          case gf => simp [intOf]; omega

  | true =>
    have he := hn rfl
    have hne : ((L1.length : Int) != (q.length : Int) + (l.length : Int)) = false := by simp [bne]; omega
    go_wp2_with fail
    clear hd hn hwl key
    cases hT : qRightB T with
    | false =>
      have hk21 : k2 = 1 := by rw [← Hk2.out]; exact takeCode_form hT
      have hp := not_right_pos hT
      have dl : decide ((0 : Int) < (T.length : Int)) = true := by simp; omega
      have dz : ((T.length : Int) == 0) = false := beq_eq_false_iff_ne.2 (by omega)
      rw [hk21] at y3
      refine wp_loop_rounds 1 ?_
      rw [rounds_succ]
      go_wp2_with fail
      refine (specQueueRight_any ta tc T _ HTV.out.cans HKT.out (by omega)).mono ?_
      rintro e v10 ⟨rfl, g10⟩
      rw [hT]
      go_wp2_with fail
      go_ret
      exact ⟨rfl, HB0.out.trans (g10.mono HB0.out.size)⟩
    | true =>
      have hT16 := (qRightB_of hT).1
      have hyr : RowAt v9 u4.heap.size [.slice ya (takeL T).length yc, .int .i64 (takeC T).1, .string (takeC T).2, .int .i64 (takeCode T)] := by
        rw [HL2.out, Hk2.out, Hy.out]
        exact HV.out.row (u4.heap.size, [.slice ya L2.length yc, .int .i64 n, .string s, .int .i64 k2]) (by simp)
      have HYR := Lib.hid hyr
      clear hyr
      go_loopw [12, 13] (fun u i wr => ∃ (k : Nat) (P : List (Int × ByteArray)) (last : Int) (ad : Option Addr) (c lo hi : Nat), i = .int .i64 (k : Int) ∧ u = .int .i64 last ∧ k + P.length = T.length ∧ qRightB P = true ∧ CansOk P ∧ (∀ x ∈ P, last ≤ x.1) ∧ Below u4.heap.size v9 wr ∧ RowAt wr u4.heap.size [.slice ad (takeL P).length c, .int .i64 (takeC P).1, .string (takeC P).2, .int .i64 (takeCode P)] ∧ (takeL P).length ≤ c ∧ NewIn lo hi wr ad (takeL P) ∧ (hi ≤ u4.heap.size ∨ u4.heap.size < lo)) (fun _ i _ => T.length - (intOf i).toNat)
      case atStart =>
        exact ⟨0, T, -1, ya, yc, _, _, rfl, rfl, by omega, hT, HKT.out, right_lo hT, Below.refl _ _, HYR.out, by rw [HL2.out]; exact HYc.out, by rw [HL2.out]; exact HNV.out, .inl (Nat.le_refl _)⟩
      case round =>
        obtain ⟨k, P, last, ad, c, lo, hi, rfl, rfl, hlen, hP, hPok, hlo, hb, hrow, hcap, hnew, hdis⟩ := hrel
        have t1 := (hb.cell (p := ⟨u3.heap.size, 0, none⟩) hs3).trans t0
        clear t0 y0 y1 y2 y3 x0 x1 x2 x3 q0 c0
        have HB1 := Lib.hid hb
        have HB2 := Lib.hid (HB0.out.trans (hb.mono hw4))
        by_cases hp : P.length = 0
        · rw [takeCode_none hP hp] at hrow
          have r3 := hrow.get 3 _ rfl
          have HRx := Lib.hid hrow
          have dl : decide ((k : Int) < (T.length : Int)) = false := by simp; omega
          clear hrow hnew hcap hlo hPok hP hb
          by_cases hz : T.length = 0
          · have dz : ((T.length : Int) == 0) = true := by simp [hz]
            go_wp2_with fail
            go_ret
            exact ⟨rfl, HB2.out⟩
          · have dz : ((T.length : Int) == 0) = false := beq_eq_false_iff_ne.2 (by omega)
            go_wp2_with fail
            refine (specQueueRight_any ta tc T _ (HTV.out.kept HB1.out (Nat.le_of_lt hs3)).cans HKT.out (by omega)).mono ?_
            rintro e z1 ⟨rfl, g1⟩
            rw [hT]
            have r4 := (HRx.out.kept g1).get 3 _ rfl
            go_wp2_with fail
            go_ret
            exact ⟨rfl, HB2.out.trans (g1.mono HB2.out.size)⟩
        · have hcode := takeCode_ok hP hp
          have hl0 := hlo _ (takeC_mem hcode)
          have F0 := takeL_len hcode
          have F1 := Lib.hid (takeL_right hcode)
          have F2 := Lib.hid (fun x hx => hPok x (takeL_sub hcode x hx) : CansOk (takeL P))
          have F3 := Lib.hid (fun x hx => takeC_least hcode x (takeL_sub hcode x hx) : ∀ x ∈ takeL P, (takeC P).1 ≤ x.1)
          rw [hcode] at hrow
          generalize takeL P = M at *
          generalize takeC P = y at *
          obtain ⟨m, b⟩ := y
          simp only at hrow hl0
          have HR := Lib.hid hrow
          have HN := Lib.hid hnew
          have r0 := hrow.get 0 _ rfl
          have r1 := hrow.get 1 _ rfl
          have r2 := hrow.get 2 _ rfl
          have r3 := hrow.get 3 _ rfl
          have hYl := hrow.lt
          have dl : decide ((k : Int) < (T.length : Int)) = true := by simp; omega
          have dm : decide (m < last) = false := by simp; omega
          have hw1 : IntKind.i64.wrap ((T.length : Int) - 1) = (T.length : Int) - 1 := IntWalk.i64_in _ (by omega)
          have hw2 : IntKind.i64.wrap ((T.length : Int) - 1 - (k : Int)) = (M.length : Int) := by rw [IntWalk.i64_in _ (by omega)]; omega
          have hbe : ((M.length : Int) != (M.length : Int)) = false := by simp
          have HC := Lib.hid (implQueueTake_any ad c M wr hnew.cans F2.out (by omega) hcap)
          clear hrow hnew hlo hPok hP hcode hb
          go_wp2_with fail
          refine HC.out.mono ?_
          rintro e z ⟨ad2, c2, rfl, hc2, hn2, hz⟩
          have HRz := Lib.hid (HR.out.kept hz)
          have z0 := HRz.out.get 0 _ rfl
          have z1 := HRz.out.get 1 _ rfl
          have z2 := HRz.out.get 2 _ rfl
          have z3 := HRz.out.get 3 _ rfl
          have f0 := HRz.out.free 0
          have f1 := HRz.out.free 1
          have f2 := HRz.out.free 2
          have f3 := HRz.out.free 3
          have HZ := Lib.hid hz
          have HN2 := Lib.hid hn2
          clear hz hn2
          go_wp2_with fail
          refine ⟨⟨k + 1, M, m, ad2, c2, wr.heap.size, z.heap.size, ?ga, rfl, ?gb, F1.out, F2.out, F3.out, ?gc, ?gd, hc2, ?ge, .inr hYl⟩, ?gf⟩
          case ga => exact congrArg (Value.int .i64) (by omega)
          case gb => omega
          case gc => exact ((((HB1.out.trans (HZ.out.mono (Nat.le_of_lt hYl))).setCell (Nat.le_refl _) _).setCell (Nat.le_refl _) _).setCell (Nat.le_refl _) _).setCell (Nat.le_refl _) _
          case gd => exact HRz.out.put4 _ _ _ _
          case ge => exact HN2.out.put4 (.inr hYl) _ _ _ _
          case gf => simp [intOf]; omega

set_option maxRecDepth 100000 in
theorem lifted (os : Os) (started : os.Started) (H : Type) (enc : TypeId × Value → H) :
    ReturnsInHanded {} Try.checked os 3 .any (Rows.fnQueueSpec.pre6 enc Try.prog Try.f3 Rows.fnQueueRow.domain false) (Rows.fnQueueSpec.post enc Try.prog Try.f3 false true false false) := by
  refine returnsInHanded_of_change (C := Try.checked) own started (by kernel_rfl) Try.func3
    (ChangeSpec.witness6 (enc := enc) (C := Try.checked) false ⟨#[], #[.slice none 0 0, .slice none 0 0], []⟩ 8 (by kernel_rfl) (by kernel_rfl) (by kernel_rfl) (by kernel_rfl)) ?_
  intro W base args ds gs before hval0 hW hcnd _
  have hval : ∀ (j : Nat) t v, Try.f3.params[j]? = some t → args[j]? = some v → Value.okWide Try.prog W .any base t v := hval0
  have hW' := hW
  obtain ⟨p, q, hA0, hV, rfl, hfz, hnd⟩ := hW
  have hA : DataW.TrodAll enc Try.prog W 0 (fun _ => true) true Try.f3.params.toList args.toList ds p := hA0
  rw [Try.params3] at hA hval
  obtain ⟨v0, vs0, d0, ds0, p0, q0, hargs, rfl, rfl, h0, r0⟩ := trodAll_cons hA
  obtain ⟨v1, vs1, d1, ds1, p1, q1, rfl, rfl, rfl, h1, r1⟩ := trodAll_cons r0
  obtain ⟨rfl, rfl, rfl⟩ := trodAll_nil r1
  obtain rfl : args = #[v0, v1] := by cases args; simp_all
  obtain ⟨rfl, rfl⟩ := trodVars_none hV
  obtain ⟨a0, len0, cap0, rfl⟩ := okWide_slice Try.underlying22 (hval 0 22 v0 rfl rfl)
  have k0 := h0
  have lt0 : ∀ x ∈ p0, x.block < W.heap.size := by obtain ⟨m, hm⟩ := k0; exact DataW.trod_lt m _ _ _ hm
  obtain ⟨z0, w0⟩ : ∃ zs, IsRow .u8 W a0 len0 cap0 zs := by
    obtain ⟨fuel, hf⟩ := h0
    rcases open_ints Try.underlying22 Try.underlying5 (by kernel_rfl) hf with ⟨hcs, _⟩ | ⟨x, l, c, zs, hcs, _, hl, hm, hz, _, hcell, hwz⟩
    · simp [Value.cells] at hcs
      obtain ⟨rfl, rfl, rfl⟩ := hcs
      exact ⟨[], .inl ⟨rfl, rfl, rfl, rfl⟩⟩
    · simp [Value.cells] at hcs
      obtain ⟨rfl, rfl, rfl⟩ := hcs
      exact ⟨zs, .inr ⟨_, rfl, hl, hm, by simpa using hz, hcell, hwz⟩⟩
  obtain ⟨a1, len1, cap1, rfl⟩ := okWide_slice Try.underlying22 (hval 1 22 v1 rfl rfl)
  have k1 := h1
  have lt1 : ∀ x ∈ p1, x.block < W.heap.size := by obtain ⟨m, hm⟩ := k1; exact DataW.trod_lt m _ _ _ hm
  obtain ⟨z1, w1⟩ : ∃ zs, IsRow .u8 W a1 len1 cap1 zs := by
    obtain ⟨fuel, hf⟩ := h1
    rcases open_ints Try.underlying22 Try.underlying5 (by kernel_rfl) hf with ⟨hcs, _⟩ | ⟨x, l, c, zs, hcs, _, hl, hm, hz, _, hcell, hwz⟩
    · simp [Value.cells] at hcs
      obtain ⟨rfl, rfl, rfl⟩ := hcs
      exact ⟨[], .inl ⟨rfl, rfl, rfl, rfl⟩⟩
    · simp [Value.cells] at hcs
      obtain ⟨rfl, rfl, rfl⟩ := hcs
      exact ⟨zs, .inr ⟨_, rfl, hl, hm, by simpa using hz, hcell, hwz⟩⟩
  clear hA0 hval0
  refine (walk a0 len0 cap0 z0 a1 len1 cap1 z1 W w0 w1).mono fun e W' ⟨he, bel⟩ => ?_
  subst he
  exact ⟨_, rfl, _, _, _, [], _, [], hW', trodAll_mk1 (shut_bool Try.underlying4 _), (trodAll_cons_mk (Below.trod laidOut (by kernel_rfl) (of_decide_eq_true (by kernel_rfl)) k0 bel lt0) (trodAll_cons_mk (Below.trod laidOut (by kernel_rfl) (of_decide_eq_true (by kernel_rfl)) k1 bel lt1) trodAll_mk0)), rfl, bel.frame _, fun h => by cases h⟩

theorem over : Rows.fnQueueRow.holds Try.pinned (OpenSpec.ofChange Rows.fnQueueSpec) :=
  OpenClaim.holds_of_wide 3 Try.f3 rfl rfl rfl rfl rfl rfl rfl ⟨rfl, rfl, rfl, rfl, rfl⟩ rfl rfl rfl rfl rfl (by kernel_rfl) Try.func3 (by kernel_rfl)
    (of_decide_eq_true (by kernel_rfl)) (by unfold Func.isWrapper; first | (rw [if_pos (by decide +kernel)]; kernel_rfl) | (rw [if_neg (by decide +kernel)]; exact ⟨rfl, rfl⟩))
    (fun os started H enc _ => lifted os started H enc)

/-- ████ THE STATEMENT ████ -/
theorem proved : Rows.FnQueueSaid := over
#print axioms proved
end Go.Proofs.Ytmfnbbjhaolhgaa.fnQueue
