/- Which of two Names is less: the model's and the program's. For every two; nothing that was there is written. -/
import Derived.Test.YtioldepgoodipaaGreatNameImpl
import Derived.Test.YtioldepgoodipaaGreatConv
import Derived.BigQuiet
import Derived.Deep.RegionHeld3
namespace Go.Proofs.YtioldepgoodipaaGreat
open Go.RowKit
set_option linter.unusedVariables false

/-- Of the first k bytes, the last one on which they part. -/
def lessF (x y : ByteArray) : Nat → Bool
  | 0 => false
  | k + 1 => if byteAt x k = byteAt y k then lessF x y k else decide (byteAt x k < byteAt y k)
/-- A Name's number. -/
def nmN (n : Nm) : Int := nmK n % 256 + nmK n / 256 % 256 * 256 + nmK n / 65536 % 256 * 65536 + nmK n / 16777216 * 16777216 + n.i * 4294967296 + n.f * 1099511627776 + (2 * n.c) * 281474976710656 + nmT n * 72057594037927936
theorem nmN_bounds {n : Nm} (h : okB n = true) : 0 ≤ nmN n ∧ nmN n ≤ 18446744073709551615 := by
  have hk := nmK_bounds h
  have ht := nmT_bounds h
  have hr := okB_of h
  unfold nmN
  omega
theorem nmL_bytes {n : Nm} (h : okB n = true) : ∃ y0 y1 y2 y3 y4 y5 y6 y7 : UInt8, nmL n = [y0, y1, y2, y3, y4, y5, y6, y7] ∧ (y0.toNat : Int) = nmK n % 256 ∧ (y1.toNat : Int) = nmK n / 256 % 256 ∧ (y2.toNat : Int) = nmK n / 65536 % 256 ∧ (y3.toNat : Int) = nmK n / 16777216 ∧ (y4.toNat : Int) = n.i ∧ (y5.toNat : Int) = n.f ∧ (y6.toNat : Int) = 2 * n.c ∧ (y7.toNat : Int) = nmT n := by
  have hcs := nmL_cells h
  obtain ⟨y0, y1, y2, y3, y4, y5, y6, y7, e⟩ := eight (nmL_len n)
  rw [e] at hcs
  simp [bcells] at hcs
  exact ⟨y0, y1, y2, y3, y4, y5, y6, y7, e, hcs.1, hcs.2.1, hcs.2.2.1, hcs.2.2.2.1, hcs.2.2.2.2.1, hcs.2.2.2.2.2.1, hcs.2.2.2.2.2.2.1, hcs.2.2.2.2.2.2.2⟩
theorem lessF_nm {a b : Nm} (ha : okB a = true) (hb : okB b = true) : lessF ⟨(nmL a).toArray⟩ ⟨(nmL b).toArray⟩ 8 = decide (nmN a < nmN b) := by
  have ka := nmK_bounds ha
  have ta := nmT_bounds ha
  have ra := okB_of ha
  have kb := nmK_bounds hb
  have tb := nmT_bounds hb
  have rb := okB_of hb
  obtain ⟨x0, x1, x2, x3, x4, x5, x6, x7, e, p0, p1, p2, p3, p4, p5, p6, p7⟩ := nmL_bytes ha
  obtain ⟨y0, y1, y2, y3, y4, y5, y6, y7, e', q0, q1, q2, q3, q4, q5, q6, q7⟩ := nmL_bytes hb
  rw [e, e']
  have hx : ∀ (l : List UInt8) (j : Nat), byteAt ⟨l.toArray⟩ j = ((l[j]?.getD 0).toNat : Int) := fun l j => rfl
  unfold nmN
  generalize nmK a = k at *
  generalize nmK b = k' at *
  generalize nmT a = t at *
  generalize nmT b = t' at *
  simp only [lessF, hx, List.getElem?_cons_zero, List.getElem?_cons_succ, Option.getD_some, p0, p1, p2, p3, p4, p5, p6, p7, q0, q1, q2, q3, q4, q5, q6, q7]
  repeat' split
  all_goals first
    | (symm; rw [decide_eq_false_iff_not]; omega)
    | (rw [decide_eq_decide]; omega)

set_option maxRecDepth 100000 in
set_option maxHeartbeats 1000000 in
theorem l04Less_any (a b : Nm) (w : World) (ha : okB a = true) (hb : okB b = true) :
    Calls Tryz.prog 156 #[nmV a, nmV b] w fun e w' => e = .returned (.bool (decide (nmN a < nmN b))) ∧ Below w.heap.size w w' := by
  have HA := fun W => Lib.hid (l04Bytes_any a W ha)
  have HB := fun W => Lib.hid (l04Bytes_any b W hb)
  rw [← lessF_nm ha hb]
  have la : (ByteArray.mk (nmL a).toArray).size = 8 := rfl
  have lb : (ByteArray.mk (nmL b).toArray).size = 8 := rfl
  clear ha hb
  unfold nmV at *
  generalize ByteArray.mk (nmL a).toArray = x at *
  generalize ByteArray.mk (nmL b).toArray = y at *
  obtain ⟨R, hR⟩ : ∃ R, lessF x y 8 = R := ⟨_, rfl⟩
  rw [hR]
  have HR := Lib.hid hR
  clear hR
  go_enter Tryz.func156, Tryz.ntmps156
  go_wp2_with fail
  refine (HA _).out.mono ?_
  rintro e w1 ⟨rfl, h1⟩
  obtain ⟨c1, f1⟩ := bcell h1
  have z1 : w.heap.size + 1 < w1.heap.size := by have := h1.size; simp at this; omega
  go_wp2_with fail
  refine (HB _).out.mono ?_
  rintro e w2 ⟨rfl, h2⟩
  have b2 : Below w.heap.size w w2 := (((((Below.refl _ _).alloc (Nat.le_refl _) _).alloc (by simp) _).trans (h1.mono (by simp; omega)))).trans (h2.mono (by omega))
  clear h1 c1 f1 h2 HA HB
  go_wp2_with fail
  go_loopw [7] (fun i wr => ∃ k : Nat, i = .int .i64 ((k : Int) - 1) ∧ k ≤ 8 ∧ lessF x y k = R ∧ Below w.heap.size w wr) (fun i _ => (intOf i + 1).toNat)
  case atStart => exact ⟨8, rfl, by omega, HR.out, b2⟩
  case round =>
    obtain ⟨k, rfl, hk, hr, hb⟩ := hrel
    have HRk := Lib.hid hr
    clear hr
    rcases k with _ | k
    · go_wp2
      go_ret
      exact ⟨by rw [← HRk.out]; rfl, hb⟩
    · have e1 : (((k + 1 : Nat) : Int) - 1) = (k : Int) := by omega
      rw [e1]
      have hd : decide ((0 : Int) ≤ (k : Int)) = true := by simp
      have hi1 : (0 : Int) ≤ (k : Int) := by omega
      have hi2 : (k : Int) < (x.size : Int) := by omega
      have hi3 : (k : Int) < (y.size : Int) := by omega
      have hx := byteAt_get x k (by omega)
      have hy := byteAt_get y k (by omega)
      have HT := Lib.hid (show lessF x y (k + 1) = if byteAt x k = byteAt y k then lessF x y k else decide (byteAt x k < byteAt y k) from rfl)
      generalize byteAt x k = p at *
      generalize byteAt y k = q at *
      by_cases hpq : p = q
      · have HO := Lib.hid (HT.out.symm.trans HRk.out |> fun h => (if_pos hpq).symm.trans h)
        clear HT HRk
        subst hpq
        go_wp2_with fail
        go_quiet (fail)
        go_wp2
        go_roundw
        case rel => exact ⟨k, by go_num, by omega, HO.out, below_drewN' hb _⟩
        case measure => simp [intOf]
      · have HO := Lib.hid (HT.out.symm.trans HRk.out |> fun h => (if_neg hpq).symm.trans h)
        have hq1 : (p == q) = false := by simpa using hpq
        have hq2 : (p != q) = true := by simpa using hpq
        clear HT HRk hpq
        go_wp2_with fail
        go_quiet (fail)
        go_wp2_with fail
        go_quiet (fail)
        go_wp2
        go_ret
        exact ⟨by rw [← HO.out]; rfl, below_drewN' (below_drewN' hb _) _⟩
end Go.Proofs.YtioldepgoodipaaGreat
