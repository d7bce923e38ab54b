/- Several texts in one, each with its own head: what is proved, and of what, stands there. -/
import Derived.Test.YtpolpkheaibonaaClaimRight
import Derived.Test.YtpolpkheaibonaaCansTo
import Derived.Test.YtpolpkheaibonaaNameImpl
import Derived.Test.YtpolpkheaibonaaNrA
import Derived.Test.YtpolpkheaibonaaConv
import Derived.BigRegion
import Derived.BigQuiet
import Derived.Test.YtpolpkheaibonaaNameLess2
import Derived.Test.YtpolpkheaibonaaNumsTo
import Derived.Lib.SliceRun
import Derived.Test.YtpolpkheaibonaaStep
import Derived.Lib.Overlaps
import Derived.Lib.AppendZerosOnto
import Derived.Deep.RegionLaw
import Derived.Laws.CopyOwn
import Derived.Test.YtpolpkheaibonaaClaimMath
import Derived.Test.YtpolpkheaibonaaClaimNew
import Derived.Test.YtpolpkheaibonaaPutRow
import Derived.Test.YtpolpkheaibonaaRowsAt
import Derived.Test.YtpolpkheaibonaaDvs
import Derived.Test.YtpolpkheaibonaaNd
import Derived.Test.YtpolpkheaibonaaNdTo
import Derived.Test.YtpolpkheaibonaaTab
import Derived.Test.YtpolpkheaibonaaQuiet
/- Whether a Claim is right: the program's. Nothing that was there is written. -/
namespace Go.Proofs.Ytpolpkheaibonaa
open Go.RowKit
set_option linter.unusedVariables false

/-- What its state asks of an address and of what is left. -/
def stB (ad st lf : Int) : Bool :=
  if st = 1 then inB 0 251 ad && inB 1 250 lf else if st = 2 then inB 0 251 ad && decide (lf = 0) else if st = 3 then decide (ad = 254) && decide (lf = 0) else false
theorem stB_eq (c : Cl) : stateB c = stB c.ad c.st c.lf := rfl
set_option maxRecDepth 100000 in
set_option maxHeartbeats 2000000 in
theorem stateRight_any (n : Nm) (ad st lf : Int) (v : Value) (w : World) :
    Calls Try.prog 119 #[clV n ad st lf v] w fun e w' => e = .returned (.bool (stB ad st lf)) ∧ Below w.heap.size w w' := by
  obtain ⟨n0, n1, n2, n3, n4, n5, n6, n7⟩ := n
  unfold clV
  dsimp only
  obtain ⟨R, hR⟩ : ∃ R, stB ad st lf = R := ⟨_, rfl⟩
  have HS := Lib.hid (show (if st = 1 then inB 0 251 ad && inB 1 250 lf else if st = 2 then inB 0 251 ad && decide (lf = 0) else if st = 3 then decide (ad = 254) && decide (lf = 0) else false) = R from hR)
  rw [hR]
  clear hR
  have HA := fun W => Lib.hid (from0_any ad 251 W)
  by_cases s1 : st = 1
  · subst s1
    rcases ha : inB 0 251 ad
    · have HO := Lib.hid (show R = false by rw [← HS.out, if_pos rfl, ha]; rfl)
      rw [ha] at HA
      clear HS ha
      go_enter Try.func119, Try.ntmps119
      go_wp2_with (go_at_call 48; refine (HA _).out.mono ?_; rintro e w' ⟨rfl, rfl⟩)
      go_ret
      exact ⟨by rw [HO.out]; rfl, (Below.refl _ _).alloc (Nat.le_refl _) _⟩
    rw [ha] at HA
    have HL := HS.out
    rw [if_pos rfl, ha, Bool.true_and] at HL
    clear HS ha
    by_cases h1 : 1 ≤ lf
    · have hd : decide (1 ≤ lf) = true := decide_eq_true h1
      have HO := Lib.hid (show R = decide (lf ≤ 250) by rw [← HL]; simp [inB, hd])
      clear HL h1
      go_enter Try.func119, Try.ntmps119
      go_wp2_with (go_at_call 48; refine (HA _).out.mono ?_; rintro e w' ⟨rfl, rfl⟩)
      go_ret
      exact ⟨by rw [HO.out]; rfl, (Below.refl _ _).alloc (Nat.le_refl _) _⟩
    · have hd : decide (1 ≤ lf) = false := decide_eq_false h1
      have HO := Lib.hid (show R = false by rw [← HL]; simp [inB, hd])
      clear HL h1
      go_enter Try.func119, Try.ntmps119
      go_wp2_with (go_at_call 48; refine (HA _).out.mono ?_; rintro e w' ⟨rfl, rfl⟩)
      go_ret
      exact ⟨by rw [HO.out]; rfl, (Below.refl _ _).alloc (Nat.le_refl _) _⟩
  have hs1 : (st == 1) = false := by simpa using s1
  by_cases s2 : st = 2
  · subst s2
    rcases ha : inB 0 251 ad
    · have HO := Lib.hid (show R = false by rw [← HS.out, if_neg s1, if_pos rfl, ha]; rfl)
      rw [ha] at HA
      clear HS ha s1
      go_enter Try.func119, Try.ntmps119
      go_wp2_with (go_at_call 48; refine (HA _).out.mono ?_; rintro e w' ⟨rfl, rfl⟩)
      go_ret
      exact ⟨by rw [HO.out]; rfl, (Below.refl _ _).alloc (Nat.le_refl _) _⟩
    rw [ha] at HA
    have HL := HS.out
    rw [if_neg s1, if_pos rfl, ha, Bool.true_and] at HL
    clear HS ha s1
    by_cases h1 : 0 ≤ lf
    · have hd : decide (0 ≤ lf) = true := decide_eq_true h1
      have HO := Lib.hid (show R = decide (lf ≤ 0) by rw [← HL]; exact decide_eq_decide.2 (by omega))
      clear HL h1
      go_enter Try.func119, Try.ntmps119
      go_wp2_with (go_at_call 48; refine (HA _).out.mono ?_; rintro e w' ⟨rfl, rfl⟩)
      go_ret
      exact ⟨by rw [HO.out]; rfl, (Below.refl _ _).alloc (Nat.le_refl _) _⟩
    · have hd : decide (0 ≤ lf) = false := decide_eq_false h1
      have HO := Lib.hid (show R = false by rw [← HL]; exact decide_eq_false (by omega))
      clear HL h1
      go_enter Try.func119, Try.ntmps119
      go_wp2_with (go_at_call 48; refine (HA _).out.mono ?_; rintro e w' ⟨rfl, rfl⟩)
      go_ret
      exact ⟨by rw [HO.out]; rfl, (Below.refl _ _).alloc (Nat.le_refl _) _⟩
  have hs2 : (st == 2) = false := by simpa using s2
  by_cases s3 : st = 3
  · subst s3
    by_cases ha : ad = 254
    · subst ha
      have HO := Lib.hid (show R = (lf == 0) by rw [← HS.out, if_neg s1, if_neg s2, if_pos rfl]; simp; exact (Bool.beq_eq_decide_eq lf 0).symm)
      clear HS s1 s2
      go_enter Try.func119, Try.ntmps119
      go_wp2
      go_ret
      exact ⟨by rw [HO.out]; rfl, (Below.refl _ _).alloc (Nat.le_refl _) _⟩
    · have hd : (ad == 254) = false := by simpa using ha
      have HO := Lib.hid (show R = false by rw [← HS.out, if_neg s1, if_neg s2, if_pos rfl]; simp [ha])
      clear HS s1 s2 ha
      go_enter Try.func119, Try.ntmps119
      go_wp2
      go_ret
      exact ⟨by rw [HO.out]; rfl, (Below.refl _ _).alloc (Nat.le_refl _) _⟩
  · have hs3 : (st == 3) = false := by simpa using s3
    have HO := Lib.hid (show R = false by rw [← HS.out, if_neg s1, if_neg s2, if_neg s3])
    clear HS s1 s2 s3
    go_enter Try.func119, Try.ntmps119
    go_wp2
    go_ret
    exact ⟨by rw [HO.out]; rfl, (Below.refl _ _).alloc (Nat.le_refl _) _⟩
set_option maxRecDepth 100000 in
set_option maxHeartbeats 2000000 in
theorem takenRight_any (a : Option Addr) (cap : Nat) (l : List Int) (w : World) (h : NumsIn w a l) (hlen : l.length ≤ 1048576) :
    Calls Try.prog 120 #[.slice a l.length cap] w fun e w' => e = .returned (.bool (riseB (-1) l)) ∧ w = w' := by
  obtain ⟨R, hR⟩ : ∃ R, riseB (-1) l = R := ⟨_, rfl⟩
  have HR := Lib.hid (show riseB (pvI l 0) (l.drop 0) = R from hR)
  rw [hR]
  clear hR
  obtain ⟨N, hN⟩ : ∃ N, l.length = N := ⟨_, rfl⟩
  have HN := Lib.hid hN
  rw [hN] at hlen ⊢
  clear hN
  have HI := Lib.hid h
  clear h
  go_enter Try.func120, Try.ntmps120
  go_wp2_with fail
  go_loopw [3, 8] (fun p i wr => ∃ (k : Nat) (m : Int), i = .int .i64 (k : Int) ∧ p = .int .i64 m ∧ m = pvI l k + 1 ∧ 0 ≤ m ∧ k ≤ N ∧ riseB (pvI l k) (l.drop k) = R ∧ w = wr) (fun _ i _ => N - (intOf i).toNat)
  case atStart => exact ⟨0, 0, rfl, rfl, rfl, by omega, by omega, HR.out, rfl⟩
  case round =>
    obtain ⟨k, m, rfl, rfl, hm, hm0, hk, hr, rfl⟩ := hrel
    have HM := Lib.hid hm
    have HK := Lib.hid hr
    clear hm hr HR
    by_cases hkn : k < N
    · have hkl : k < l.length := by have := HN.out; omega
      obtain ⟨b, o, rfl, hlt, hc⟩ := HI.out.at (by omega)
      have d0 := hc k _ (numAt_some hkl)
      have hi1 : (0 : Int) ≤ (k : Int) := by omega
      have hi2 : (k : Int) < (N : Int) := by omega
      have HT := Lib.hid (riseB_step hkl)
      have hx : pvI l (k + 1) = numAt l k := by simp [pvI]
      obtain ⟨x, hxx⟩ : ∃ x, numAt l k = x := ⟨_, rfl⟩
      rw [hxx] at d0 hx
      have HX := Lib.hid hx
      have HXX := Lib.hid hxx
      clear hc hx hxx
      by_cases h1 : x < m
      · have hd : decide (x < m) = true := decide_eq_true h1
        have HO := Lib.hid (show R = false by
          rw [← HK.out, HT.out, HXX.out]
          simp only [Bool.and_eq_false_iff]
          exact .inr (.inl (decide_eq_false (by have := HM.out; omega))))
        clear h1
        go_wp2_with fail
        go_ret
        exact ⟨by rw [HO.out]; rfl, rfl⟩
      have hd : decide (x < m) = false := decide_eq_false h1
      by_cases h2 : 251 < x
      · have hd2 : decide (251 < x) = true := decide_eq_true h2
        have HO := Lib.hid (show R = false by
          rw [← HK.out, HT.out, HXX.out, inB_no (by omega)]
          rfl)
        clear h1 h2
        go_wp2_with fail
        go_ret
        exact ⟨by rw [HO.out]; rfl, rfl⟩
      have hd2 : decide (251 < x) = false := decide_eq_false h2
      have hw : IntKind.i64.wrap (x + 1) = x + 1 := IntWalk.i64_in _ (by omega)
      have HN2 := Lib.hid (show riseB (pvI l (k + 1)) (l.drop (k + 1)) = R by
        rw [← HK.out, HT.out, HXX.out, inB_yes (by omega) (by omega), decide_eq_true (by have := HM.out; omega)]
        rfl)
      go_wp2_with fail
      go_roundw
      case rel => exact ⟨k + 1, x + 1, by go_num, rfl, by rw [HX.out], by omega, by omega, HN2.out, by first | rfl | trivial⟩
      case measure => simp [intOf]; omega
    · have hge : N ≤ k := by omega
      have HO := Lib.hid (show R = true by
        rw [← HK.out, List.drop_eq_nil_of_le (by have := HN.out; omega)]
        rfl)
      go_wp2_with fail
      go_ret
      exact ⟨by rw [HO.out]; rfl, rfl⟩
set_option maxRecDepth 100000 in
set_option maxHeartbeats 2000000 in
theorem implClaimRight_any (n : Nm) (ad st lf : Int) (a : Option Addr) (cap : Nat) (l : List Int) (w : World) (h : NumsIn w a l) (hlen : l.length ≤ 1048576) :
    Calls Try.prog 75 #[clV n ad st lf (.slice a l.length cap)] w fun e w' => e = .returned (.bool (clB ⟨n, ad, st, lf, l⟩)) ∧ Below w.heap.size w w' := by
  have HN := fun W => Lib.hid (implNameOk_any n W)
  have HS := fun W => Lib.hid (stateRight_any n ad st lf (.slice a l.length cap) W)
  have HT := fun W hW => Lib.hid (takenRight_any a cap l W hW hlen)
  have HI := Lib.hid h
  obtain ⟨R, hR⟩ : ∃ R, clB ⟨n, ad, st, lf, l⟩ = R := ⟨_, rfl⟩
  have HR := Lib.hid (show (okB n && (stB ad st lf && riseB (-1) l)) = R by
    rw [← hR]
    unfold clB
    rw [stB_eq]
    dsimp only
    rcases hq : riseB (-1) l
    · simp
    · have := riseB_len hq (by omega)
      rw [decide_eq_true (show l.length ≤ 252 by omega)]
      cases okB n <;> cases stB ad st lf <;> rfl)
  rw [hR]
  clear hR h
  generalize okB n = v0 at *
  generalize stB ad st lf = v1 at *
  generalize riseB (-1) l = v2 at *
  generalize l.length = N at *
  obtain ⟨n0, n1, n2, n3, n4, n5, n6, n7⟩ := n
  unfold clV at *
  unfold nmV at *
  dsimp only at *
  have b0 : Below w.heap.size w (w.alloc (.cells #[.int .i64 n0, .int .i64 n1, .int .i64 n2, .int .i64 n3, .int .i64 n4, .int .i64 n5, .int .i64 n6, .bool n7, .int .i64 ad, .int .i64 st, .int .i64 lf, .slice a N cap] 60)) := (Below.refl _ _).alloc (Nat.le_refl _) _
  have HB0 := Lib.hid b0
  have HR0 := Lib.hid (heap_alloc_new w (.cells #[.int .i64 n0, .int .i64 n1, .int .i64 n2, .int .i64 n3, .int .i64 n4, .int .i64 n5, .int .i64 n6, .bool n7, .int .i64 ad, .int .i64 st, .int .i64 lf, .slice a N cap] 60))
  clear b0
  go_enter Try.func75, Try.ntmps75
  go_wp2_with fail
  refine (HN _).out.mono ?_
  rintro e w1 ⟨rfl, h1⟩
  have HB1 := Lib.hid (HB0.out.trans (h1.mono (by simp)))
  have HR1 := Lib.hid ((h1.block _ (by simp)).trans HR0.out)
  clear h1 HR0 HB0
  cases v0
  · have HO := Lib.hid (show R = false from HR.out.symm.trans rfl)
    go_wp2_with fail
    go_ret
    exact ⟨by rw [HO.out]; rfl, HB1.out⟩
  have m0 := cell_of_row w1 w.heap.size 0 _ _ (0, 0) HR1.out
  have m1 := cell_of_row w1 w.heap.size 1 _ _ (0, 0) HR1.out
  have m2 := cell_of_row w1 w.heap.size 2 _ _ (0, 0) HR1.out
  have m3 := cell_of_row w1 w.heap.size 3 _ _ (0, 0) HR1.out
  have m4 := cell_of_row w1 w.heap.size 4 _ _ (0, 0) HR1.out
  have m5 := cell_of_row w1 w.heap.size 5 _ _ (0, 0) HR1.out
  have m6 := cell_of_row w1 w.heap.size 6 _ _ (0, 0) HR1.out
  have m7 := cell_of_row w1 w.heap.size 7 _ _ (0, 0) HR1.out
  have m8 := cell_of_row w1 w.heap.size 8 _ _ (0, 0) HR1.out
  have m9 := cell_of_row w1 w.heap.size 9 _ _ (0, 0) HR1.out
  have m10 := cell_of_row w1 w.heap.size 10 _ _ (0, 0) HR1.out
  have m11 := cell_of_row w1 w.heap.size 11 _ _ (0, 0) HR1.out
  simp only [List.getElem?_toArray, List.getElem?_cons_zero, List.getElem?_cons_succ] at m0 m1 m2 m3 m4 m5 m6 m7 m8 m9 m10 m11
  go_wp2_with fail
  refine (HS _).out.mono ?_
  rintro e w2 ⟨rfl, h2⟩
  have HB2 := Lib.hid (HB1.out.trans (h2.mono (HB1.out.size)))
  have HR2 := Lib.hid ((h2.block _ (heap_lt HR1.out)).trans HR1.out)
  clear h2 HR1 HB1 m0 m1 m2 m3 m4 m5 m6 m7 m8 m9 m10 m11
  cases v1
  · have HO := Lib.hid (show R = false from HR.out.symm.trans rfl)
    go_wp2_with fail
    go_ret
    exact ⟨by rw [HO.out]; rfl, HB2.out⟩
  have m11 := cell_of_row w2 w.heap.size 11 _ _ (0, 0) HR2.out
  simp only [List.getElem?_toArray, List.getElem?_cons_zero, List.getElem?_cons_succ] at m11
  have HO := Lib.hid (show R = v2 from HR.out.symm.trans (by simp))
  go_wp2_with fail
  refine (HT _ (HI.out.kept HB2.out)).out.mono ?_
  rintro e w3 ⟨rfl, rfl⟩
  go_wp2_with fail
  go_ret
  exact ⟨by rw [HO.out]; rfl, HB2.out⟩
end Go.Proofs.Ytpolpkheaibonaa
/- Whether a Queue is right, and what waits in it: the program's and the model's. Nothing that was there is written. -/
namespace Go.Proofs.Ytpolpkheaibonaa
open Go.RowKit
set_option linter.unusedVariables false

/-- That Queue is right. -/
def qRightB (l : List (Int × ByteArray)) : Bool := decide (l.length ≤ 16) && allB l
theorem qRightB_long {l : List (Int × ByteArray)} (h : 16 < l.length) : qRightB l = false := by simp [qRightB]; omega
theorem qRightB_short {l : List (Int × ByteArray)} (h : l.length ≤ 16) : qRightB l = allB l := by simp [qRightB, h]
theorem qRightB_of {l : List (Int × ByteArray)} (h : qRightB l = true) : l.length ≤ 16 ∧ allB l = true := by simpa [qRightB] using h

set_option maxHeartbeats 1000000 in
theorem implQueueRight_any (a : Option Addr) (cap : Nat) (l : List (Int × ByteArray)) (w : World) (h : CansIn w a l) (hok : CansOk l) (hlen : l.length ≤ 1048576) :
    Calls Try.prog 76 #[.agg #[.slice a l.length cap]] w fun e w' => e = .returned (.bool (qRightB l)) ∧ Below w.heap.size w w' := by
  have hb0 := fun o : Obj => (Below.refl w.heap.size w).alloc (Nat.le_refl _) o
  have HB := Lib.hid hb0
  have HC := Lib.hid h
  clear hb0 h
  by_cases h16 : l.length ≤ 16
  · have hd : decide ((l.length : Int) ≤ 16) = true := decide_eq_true (by omega)
    have HQ := Lib.hid (qRightB_short h16)
    have HA := fun W hW => Lib.hid (implAllRight_any a cap l W hW hok hlen)
    clear h16
    go_enter Try.func76, Try.ntmps76
    go_wp2_with fail
    refine (HA _ (HC.out.kept (HB.out _))).out.mono ?_
    rintro e w1 ⟨rfl, h1⟩
    go_wp2
    go_ret
    exact ⟨by rw [HQ.out]; rfl, (HB.out _).trans (h1.mono (by simp))⟩
  · have hd : decide ((l.length : Int) ≤ 16) = false := decide_eq_false (by omega)
    have HQ := Lib.hid (qRightB_long (l := l) (by omega))
    clear h16
    go_enter Try.func76, Try.ntmps76
    go_wp2_with fail
    go_ret
    exact ⟨by rw [HQ.out]; rfl, HB.out _⟩
set_option maxHeartbeats 1000000 in
theorem specQueueRight_any (a : Option Addr) (cap : Nat) (l : List (Int × ByteArray)) (w : World) (h : CansIn w a l) (hok : CansOk l) (hlen : l.length ≤ 1048576) :
    Calls Try.prog 70 #[.agg #[.slice a l.length cap]] w fun e w' => e = .returned (.bool (qRightB l)) ∧ Below w.heap.size w w' := by
  have hb0 := fun o : Obj => (Below.refl w.heap.size w).alloc (Nat.le_refl _) o
  have HB := Lib.hid hb0
  have HC := Lib.hid h
  clear hb0 h
  by_cases h16 : l.length ≤ 16
  · have hd : decide ((l.length : Int) ≤ 16) = true := decide_eq_true (by omega)
    have HQ := Lib.hid (qRightB_short h16)
    have HA := fun W hW => Lib.hid (specAll_any a cap l W hW hok hlen)
    clear h16
    go_enter Try.func70, Try.ntmps70
    go_wp2_with fail
    refine (HA _ (HC.out.kept (HB.out _))).out.mono ?_
    rintro e w1 ⟨rfl, h1⟩
    go_wp2
    go_ret
    exact ⟨by rw [HQ.out]; rfl, (HB.out _).trans (h1.mono (by simp))⟩
  · have hd : decide ((l.length : Int) ≤ 16) = false := decide_eq_false (by omega)
    have HQ := Lib.hid (qRightB_long (l := l) (by omega))
    clear h16
    go_enter Try.func70, Try.ntmps70
    go_wp2_with fail
    go_ret
    exact ⟨by rw [HQ.out]; rfl, HB.out _⟩

set_option maxHeartbeats 1000000 in
theorem waitingIn_any (v : Value) (hv : ∃ a n c, v = .slice a n c) (w : World) :
    Calls Try.prog 136 #[.agg #[v]] w fun e w' => e = .returned (.agg #[v]) ∧ Below w.heap.size w w' := by
  obtain ⟨a, n, c, rfl⟩ := hv
  go_enter Try.func136, Try.ntmps136
  go_wp2
  exact bodyPost_ret (v := .agg #[.slice a n c]) (by simp [results, Try.results136, go_sem]) rfl ⟨rfl, ((Below.refl _ _).alloc (Nat.le_refl _) _).alloc (by simp) _⟩
end Go.Proofs.Ytpolpkheaibonaa
/- The Name whose bytes a text is: the model's. For every text; nothing that was there is written. -/
namespace Go.Proofs.Ytpolpkheaibonaa
open Go.RowKit
set_option linter.unusedVariables false

/-- The number of a text's first four bytes, the lowest first. -/
def lo4 (t : ByteArray) : Int := byteAt t 0 + 256 * byteAt t 1 + 65536 * byteAt t 2 + 16777216 * byteAt t 3
/-- The Name that eight bytes may be of. -/
def readNm (t : ByteArray) : Nm := ⟨lo4 t % 2097152, lo4 t / 2097152, byteAt t 4, byteAt t 5, byteAt t 6 / 2, byteAt t 7 % 16, byteAt t 7 / 16 % 8, decide (128 ≤ byteAt t 7)⟩
/-- A Name and a code, as a value. -/
def nmOutV (n : Nm) (c : Int) : Value := .agg #[.int .i64 n.u, .int .i64 n.m, .int .i64 n.i, .int .i64 n.f, .int .i64 n.c, .int .i64 n.s, .int .i64 n.y, .bool n.a, .int .i64 c]
def nm0 : Nm := ⟨0, 0, 0, 0, 0, 0, 0, false⟩
/-- Those are the bytes of a Name. -/
def fromB (t : ByteArray) : Bool := nmBytes (readNm t) == t.toList
/-- What NameFrom answers. -/
def nameFromV (t : ByteArray) : Value := if 8000 < t.size then nmOutV nm0 2 else if t.size ≠ 8 then nmOutV nm0 3 else if fromB t = true then nmOutV (readNm t) 0 else nmOutV nm0 3
theorem lo4_lo (t : ByteArray) : 0 ≤ lo4 t := by
  unfold lo4
  have h0 := byteAt_lo t 0
  have h1 := byteAt_lo t 1
  have h2 := byteAt_lo t 2
  have h3 := byteAt_lo t 3
  omega
theorem lo4_hi (t : ByteArray) : lo4 t ≤ 4294967295 := by
  unfold lo4
  have h0 := byteAt_hi t 0
  have h1 := byteAt_hi t 1
  have h2 := byteAt_hi t 2
  have h3 := byteAt_hi t 3
  omega

end Go.Proofs.Ytpolpkheaibonaa
/- A right Name comes back from its bytes; of a text that is one's bytes these are the text again; of two right ones that are unlike just one is less. -/
namespace Go.Proofs.Ytpolpkheaibonaa
open Go.RowKit
set_option linter.unusedVariables false

theorem nmN_inj {a b : Nm} (ha : okB a = true) (hb : okB b = true) (h : nmN a = nmN b) : a = b := by
  have ka := nmK_bounds ha
  have ta := nmT_bounds ha
  have ra := okB_of ha
  have kb := nmK_bounds hb
  have tb := nmT_bounds hb
  have rb := okB_of hb
  unfold nmN at h
  have e1 : nmK a = nmK b := by omega
  have e2 : a.i = b.i := by omega
  have e3 : a.f = b.f := by omega
  have e4 : a.c = b.c := by omega
  have e5 : nmT a = nmT b := by omega
  obtain ⟨u, m, i, f, c, s, y, a⟩ := a
  obtain ⟨u', m', i', f', c', s', y', a'⟩ := b
  simp only [nmK, nmT] at *
  have e6 : u = u' := by omega
  have e7 : m = m' := by omega
  clear h ka kb ta tb e1
  cases a <;> cases a' <;> simp at e5 <;> simp <;> omega
theorem readNm_back {n : Nm} (h : okB n = true) : readNm ⟨(nmL n).toArray⟩ = n := by
  have hk := nmK_bounds h
  have ht := nmT_bounds h
  have hr := okB_of h
  obtain ⟨y0, y1, y2, y3, y4, y5, y6, y7, e, p0, p1, p2, p3, p4, p5, p6, p7⟩ := nmL_bytes h
  have hx : ∀ (l : List UInt8) (j : Nat), byteAt ⟨l.toArray⟩ j = ((l[j]?.getD 0).toNat : Int) := fun l j => rfl
  rw [e]
  unfold readNm lo4
  simp only [hx, List.getElem?_cons_zero, List.getElem?_cons_succ, Option.getD_some, p0, p1, p2, p3, p4, p5, p6, p7]
  obtain ⟨u, m, i, f, c, s, y, a⟩ := n
  simp only [nmK, nmT] at *
  cases a <;> simp <;> omega
theorem toList_mk (l : List UInt8) : (ByteArray.mk l.toArray).toList = l := by
  simp
theorem mk_toList (t : ByteArray) : ByteArray.mk t.toList.toArray = t := by
  obtain ⟨⟨l⟩⟩ := t
  simp
theorem if8_false {α : Type} {A B : α} {c0 c1 c2 c3 c4 c5 c6 c7 : Prop} [Decidable c0] [Decidable c1] [Decidable c2] [Decidable c3] [Decidable c4] [Decidable c5] [Decidable c6] [Decidable c7] (h : ¬ (c0 ∧ c1 ∧ c2 ∧ c3 ∧ c4 ∧ c5 ∧ c6 ∧ c7)) : (if c0 then (if c1 then (if c2 then (if c3 then (if c4 then (if c5 then (if c6 then (if c7 then A else B) else B) else B) else B) else B) else B) else B) else B) = B := by
  repeat' split
  all_goals first | rfl | exact absurd ⟨by assumption, by assumption, by assumption, by assumption, by assumption, by assumption, by assumption, by assumption⟩ h
theorem nm_back {n : Nm} (h : okB n = true) : nameFromV ⟨(nmL n).toArray⟩ = nmOutV n 0 := by
  have hs : (ByteArray.mk (nmL n).toArray).size = 8 := rfl
  have hb : fromB ⟨(nmL n).toArray⟩ = true := by
    unfold fromB
    rw [readNm_back h, toList_mk]
    simp [nmBytes, h]
  unfold nameFromV
  rw [if_neg (by omega), if_neg (by omega), if_pos hb, readNm_back h]
theorem nmOutV_inj {n m : Nm} {c d : Int} (h : nmOutV n c = nmOutV m d) : n = m ∧ c = d := by
  obtain ⟨u, m0, i, f, c0, s, y, a⟩ := n
  obtain ⟨u', m', i', f', c', s', y', a'⟩ := m
  simp [nmOutV] at h
  simp [h]
theorem nm_fwd {t : ByteArray} {x : Nm} (h : nameFromV t = nmOutV x 0) : nmBytes x = t.toList := by
  unfold nameFromV at h
  split at h
  · exact absurd (nmOutV_inj h).2 (by decide)
  split at h
  · exact absurd (nmOutV_inj h).2 (by decide)
  split at h
  · rename_i hb
    rw [← (nmOutV_inj h).1]
    simpa [fromB] using hb
  · exact absurd (nmOutV_inj h).2 (by decide)
theorem ok_of_bytes {n : Nm} (h : nmBytes n ≠ []) : okB n = true ∧ nmBytes n = nmL n := by
  unfold nmBytes at h ⊢
  split at h
  · rename_i hk
    exact ⟨hk, if_pos hk⟩
  · exact absurd rfl h
theorem less_one {a b : Nm} (ha : okB a = true) (hb : okB b = true) (h : a ≠ b) : (nmLessB a b != nmLessB b a) = true := by
  have hn : nmN a ≠ nmN b := fun e => h (nmN_inj ha hb e)
  unfold nmLessB
  rw [ha, hb]
  simp only [Bool.true_and]
  by_cases hl : nmN a < nmN b
  · simp [hl, show ¬ nmN b < nmN a by omega]
  · simp [hl, show nmN b < nmN a by omega]
end Go.Proofs.Ytpolpkheaibonaa
/- A copy of some numbers in new memory: slices.Clone. Nothing that was there is written. -/
namespace Go.Proofs.Ytpolpkheaibonaa
open Go.RowKit Go.Joins
set_option linter.unusedVariables false

theorem owns_base {w : World} {base base' : Nat} {e : TypeId} {s : Nat} {v : Value} {n : Nat} {xs : List Value} (h : w.ownsRow base e s v n xs) (hb : base' ≤ base) : w.ownsRow base' e s v n xs := by
  obtain ⟨h1, h2⟩ := h
  refine ⟨h1, ?_⟩
  rcases h2 with h2 | ⟨g, cap, cur, hv, hg, r⟩
  · exact .inl h2
  · exact .inr ⟨g, cap, cur, hv, by omega, r⟩
/-- The numbers of a row of the call's own, as a slice. -/
theorem owns_nums {w : World} {base : Nat} {e : TypeId} {v : Value} {l : List Int} (h : w.ownsRow base e 1 v l.length (ncells l)) : ∃ a cap, v = .slice a l.length cap ∧ l.length ≤ cap ∧ NumsIn w a l := by
  obtain ⟨a, cap, rfl, hc, hn⟩ := NumsNew.of_owns h
  exact ⟨a, cap, rfl, hc, hn.nums⟩
set_option maxRecDepth 100000 in
set_option maxHeartbeats 2000000 in
theorem clone_any (a : Option Addr) (cap : Nat) (l : List Int) (w : World) (h : NumsIn w a l) (hlen : l.length ≤ 1048576) :
    Calls Try.prog 162 #[.slice a l.length cap] w fun e w' => ∃ v, e = .returned v ∧ w'.ownsRow w.heap.size 2 1 v l.length (ncells l) ∧ Below w.heap.size w w' := by
  obtain ⟨i0, hi, hz0, hz1, hz2⟩ := info_parts NumsTo.info
  obtain ⟨N, hN⟩ : ∃ N, l.length = N := ⟨_, rfl⟩
  have HNl := Lib.hid hN
  rw [hN] at hlen ⊢
  clear hN
  have HI := Lib.hid h
  clear h
  rcases a with _ | ⟨b, o, sp⟩
  · have hl : l = [] := by
      rcases HI.out with h | ⟨b, o', h', _⟩
      · exact h
      · cases h'
    obtain rfl : N = 0 := by rw [← HNl.out, hl]; rfl
    subst hl
    clear HI HNl
    have hq := fun W : World => Lib.run_eql_slice_nil (P := Try.prog) W 48 2 none 0 cap 0 0 Try.underlying48
    go_enter Try.func162, Try.ntmps162
    go_wp2
    go_ret
    exact ⟨_, rfl, World.ownsRow_nil _ _ _ _, Below.refl _ _⟩
  have HO0 := Lib.hid (show (w.alloc (.cells #[] 2)).ownsRow w.heap.size 2 1 (.slice (some ⟨w.heap.size, 0, none⟩) 0 0) 0 [] from World.ownsRow_lit w #[] 0 (Nat.le_refl _) (by unfold maxLen; omega) rfl)
  have HB0 := Lib.hid ((Below.refl w.heap.size w).alloc (Nat.le_refl _) (.cells #[] 2))
  have hq := fun W : World => Lib.run_eql_slice_nil (P := Try.prog) W 48 2 (some ⟨b, o, sp⟩) N cap 0 0 Try.underlying48
  go_enter Try.func162, Try.ntmps162
  go_wp2_with (at_builtin; refine wpList_append_nums rfl (.tmp 5) (.tmp 6) 48 rfl w.heap.size 2 i0 (.int .i64 0) 8 Try.underlying48 hi hz0 hz1 hz2 rfl _ 0 [] rfl HO0.out (some ⟨b, o, sp⟩) cap l N HNl.out (by rfl) (HI.out.kept HB0.out) (by unfold maxLen; omega) (by omega) (by simp) ?_; intro v2 w2 hown2 hg2; have HO2 := Lib.hid (show w2.ownsRow w.heap.size 2 1 v2 N (ncells l) from (by simpa using hown2)); have b2 : Below w.heap.size w w2 := HB0.out.grown hg2 (by simp) (fun q hq => (World.ownsRow.lt HO0.out q hq).1); clear hown2 hg2)
  go_ret
  exact ⟨_, rfl, HO2.out, b2⟩
end Go.Proofs.Ytpolpkheaibonaa
/- An empty literal of numbers and what is appended to it, and a clone: numbers of the call's own, the world behind each named. -/
namespace Go.Proofs.Ytpolpkheaibonaa
open Go.RowKit
set_option linter.unusedVariables false

section
variable {P : Program} {ops : Array Oper} {rest : List Oper} {o : Oper} {a : Act} {w : World} {Q : Exit → Act → World → Prop}
theorem wpList_lit_h (hgd : o.guard = none) (t : TypeId) (ho : o.op = .buildSlice t 0 #[]) (e : TypeId) (i : TypeInfo) (ht : P.underlying t = some (.slice e)) (hi : P.info? e = some i)
    (h : ∀ w' g, w.heap.size = g → w'.ownsRow g e 1 (.slice (some ⟨g, 0, none⟩) 0 0) 0 [] → Below w.heap.size w w' → wpList P ops Q rest (a.put o.dst (.slice (some ⟨g, 0, none⟩) 0 0)) w') : wpList P ops Q (o :: rest) a w :=
  wpList_plain hgd fun K hK => by
    have hown := World.ownsRow_lit (base := w.heap.size) (size := 1) (e := e) w #[] 0 (Nat.le_refl _) (by unfold maxLen; omega) rfl
    have := hK _ _ (h (w.alloc (.cells #[] e)) _ rfl hown ((Below.refl _ _).alloc (Nat.le_refl _) _))
    unfold Oper.wp execOp
    simp [ho, Instr.buildSlice, run_underlying ht, sizeOf, typeInfo, hi, Instr.fill, newRow, run_newObj_alloc, -run_newObj, Result.andThen_ok, show ∀ f : Nat → Value, (Array.range 0).map f = #[] from fun f => Array.eq_empty_of_size_eq_zero (by simp)]
    exact this
theorem wpList_append_new (hgd : o.guard = none) (s x : Operand) (t : TypeId) (ho : o.op = .call { callee := .builtin .append, args := #[s, x], argTypes := #[t, t] })
    (e : TypeId) (i : TypeInfo) (z : Value) (bytes : Nat) (ht : P.underlying t = some (.slice e)) (hi : P.info? e = some i) (hz : i.zero = some z) (hsize : i.size = 1) (hby : i.bytes = bytes) (hzs : z.cells.size = 1)
    (g : Nat) (hs : a.eval s = .slice (some ⟨g, 0, none⟩) 0 0) (hown : w.ownsRow g e 1 (.slice (some ⟨g, 0, none⟩) 0 0) 0 [])
    (ad : Option Addr) (c : Nat) (l : List Int) (hx : a.eval x = .slice ad l.length c) (hin : NumsIn w ad l) (h63 : l.length ≤ maxLen) (hbytes : l.length * bytes ≤ 140737488355328)
    (w0 : World) (hb0 : Below w0.heap.size w0 w) (hg : w0.heap.size = g)
    (h : ∀ w' a' c', l.length ≤ c' → NumsNew w0.heap.size w'.heap.size w' a' l → Below w0.heap.size w0 w' → wpList P ops Q rest (a.put o.dst (.slice a' l.length c')) w') : wpList P ops Q (o :: rest) a w := by
  have hlt := (World.ownsRow.lt hown g rfl).2
  refine wpList_append_nums hgd s x t ho g e i z bytes ht hi hz hsize hby hzs _ 0 [] hs hown ad c l l.length rfl hx hin (by omega) (by rw [Nat.zero_add]; exact hbytes) (by omega) ?_
  intro v' w' h1 h2
  obtain ⟨a', c', rfl, hc, hn⟩ := NumsNew.of_owns (l := l) (show w'.ownsRow g e 1 v' l.length (ncells l) by simpa using h1)
  have hb := hb0.grown h2 hb0.size (fun q hq => by have := (World.ownsRow.lt hown q hq).1; omega)
  subst hg
  exact h w' a' c' hc hn hb
end
theorem clone_new (a : Option Addr) (cap : Nat) (l : List Int) (w : World) (h : NumsIn w a l) (hlen : l.length ≤ 1048576) :
    Calls Try.prog 162 #[.slice a l.length cap] w fun e w' => ∃ a' c', e = .returned (.slice a' l.length c') ∧ NumsNew w.heap.size w'.heap.size w' a' l ∧ Below w.heap.size w w' :=
  (clone_any a cap l w h hlen).mono fun _ _ ⟨v, h1, h2, h3⟩ => by
    obtain ⟨a', c', rfl, _, hn⟩ := NumsNew.of_owns h2
    exact ⟨a', c', h1, hn, h3⟩
end Go.Proofs.Ytpolpkheaibonaa
/- A number more among numbers of the call's own: slices.Insert. No other memory is written. -/
namespace Go.Proofs.Ytpolpkheaibonaa
open Go.RowKit Go.Joins
set_option linter.unusedVariables false

/-- What two copies leave: all from place k on one place on, and x there. -/
theorem splice_two {α : Type} (R C : List α) (N k : Nat) (x : α) (hk : k < N) (hR : N < R.length) (hC : C.length = N) (hRC : R.take k = C.take k) :
    (splice (splice R (k + 1) (C.drop k)) k [x]).take (N + 1) = C.take k ++ x :: C.drop k := by
  have e : N + 1 = (C.take k ++ x :: C.drop k).length := by simp; omega
  have h1 : splice R (k + 1) (C.drop k) = R.take (k + 1) ++ (C.drop k ++ R.drop (N + 1)) := by
    unfold splice
    rw [show k + 1 + (C.drop k).length = N + 1 by rw [List.length_drop]; omega]
  have h2 : splice (splice R (k + 1) (C.drop k)) k [x] = (C.take k ++ x :: C.drop k) ++ R.drop (N + 1) := by
    rw [h1]
    unfold splice
    have l1 : (R.take (k + 1)).length = k + 1 := by rw [List.length_take]; omega
    rw [List.take_append_of_le_length (by omega), List.take_take, Nat.min_eq_left (by omega), hRC]
    rw [show k + [x].length = (R.take (k + 1)).length by rw [l1]; rfl, List.drop_left]
    simp
  rw [h2, e]
  exact List.take_left' rfl
theorem splice_two' {α : Type} (R C : List α) (N k : Nat) (x : α) (hk : k < N) (hR : N < R.length) (hC : C.length = N) (hRC : R.take k = C.take k) :
    (splice (splice R k [x]) (k + 1) (C.drop k)).take (N + 1) = C.take k ++ x :: C.drop k := by
  have e : N + 1 = (C.take k ++ x :: C.drop k).length := by simp; omega
  have h1 : splice R k [x] = (C.take k ++ [x]) ++ R.drop (k + 1) := by
    unfold splice
    rw [hRC]
    simp
  have l1 : (C.take k ++ [x]).length = k + 1 := by simp; omega
  have h2 : splice (splice R k [x]) (k + 1) (C.drop k) = (C.take k ++ x :: C.drop k) ++ ((C.take k ++ [x]) ++ R.drop (k + 1)).drop (k + 1 + (C.drop k).length) := by
    rw [h1]
    conv => lhs; unfold splice
    rw [List.take_left' l1]
    simp
  rw [h2, e]
  exact List.take_left' rfl

section
variable {P : Program} {ops : Array Oper} {rest : List Oper} {o : Oper} {a : Act} {w : World} {Q : Exit → Act → World → Prop}
/-- copy into a row that is known whole, as one step of a region that draws its order. -/
theorem step_copy_h {K : Act → World → Prop} {E : Prop} (hgd : o.guard = none) (d s : Operand) (dT sT : TypeId) (ho : o.op = .call { callee := .builtin .copy, args := #[d, s], argTypes := #[dT, sT] })
    (elem : TypeId) (hu : P.underlying dT = some (.slice elem)) (hsz : (P.info? elem).map (·.size) = some 1) (dp sp : Option Addr) (dLen dCap sLen sCap : Nat) (hd : a.eval d = .slice dp dLen dCap) (hs : a.eval s = .slice sp sLen sCap)
    (g off : Nat) (cur : List Value) (t : TypeId) (hg : w.heap[g]? = some (.cells cur.toArray t (0, 0))) (cs : List Value) (hn : cs.length = Nat.min sLen dLen)
    (hpos : 0 < cs.length → dp = some ⟨g, off, none⟩ ∧ ∃ ad, sp = some ad ∧ ∀ j v, cs[j]? = some v → w.cell? (ad.add j) = some v) (hfit : off + cs.length ≤ cur.length) (h1 : ∀ v ∈ cs, v.oneCell' = true)
    (h : ∀ w', w'.heap[g]? = some (.cells (splice cur off cs).toArray t (0, 0)) → Out g (g + 1) w w' → K (a.put o.dst (goInt cs.length)) w') :
    if Region.wanted o (yielded ops a.tmps) = true then Oper.wp P o a w K Q else E := by
  have hw : Region.wanted o (yielded ops a.tmps) = true := by simp [Region.wanted, hgd]
  rw [if_pos hw]
  by_cases h0 : cs.length = 0
  · obtain rfl : cs = [] := List.eq_nil_of_length_eq_zero h0
    have hrun := run_copy_none (P := P) w dT sT o.type elem dp sp dLen dCap sLen sCap hu hsz (by simpa using hn.symm)
    unfold Oper.wp
    simp [execOp, ho, resolve, invoke, builtin, hd, hs, hrun, Result.andThen]
    exact h w (by simpa [splice] using hg) (Out.refl _ _ _)
  · obtain ⟨rfl, ad, rfl, hsrc⟩ := hpos (by omega)
    have hrun := run_copy_row (P := P) w dT sT o.type elem g off dLen dCap ad sLen sCap cur.toArray t cs hu hsz hg hn hsrc (by simpa using hfit) h1
    unfold Oper.wp
    simp [execOp, ho, resolve, invoke, builtin, hd, hs, hrun, Result.andThen]
    exact h _ (by simpa [splice] using setRow_heap w g _ _ t _ hg) (Out.of_setRow w g _)
theorem wpList_copy_h (hgd : o.guard = none) (d s : Operand) (dT sT : TypeId) (ho : o.op = .call { callee := .builtin .copy, args := #[d, s], argTypes := #[dT, sT] })
    (elem : TypeId) (hu : P.underlying dT = some (.slice elem)) (hsz : (P.info? elem).map (·.size) = some 1) (dp sp : Option Addr) (dLen dCap sLen sCap : Nat) (hd : a.eval d = .slice dp dLen dCap) (hs : a.eval s = .slice sp sLen sCap)
    (g off : Nat) (cur : List Value) (t : TypeId) (hg : w.heap[g]? = some (.cells cur.toArray t (0, 0))) (cs : List Value) (hn : cs.length = Nat.min sLen dLen)
    (hpos : 0 < cs.length → dp = some ⟨g, off, none⟩ ∧ ∃ ad, sp = some ad ∧ ∀ j v, cs[j]? = some v → w.cell? (ad.add j) = some v) (hfit : off + cs.length ≤ cur.length) (h1 : ∀ v ∈ cs, v.oneCell' = true)
    (h : ∀ w', w'.heap[g]? = some (.cells (splice cur off cs).toArray t (0, 0)) → Out g (g + 1) w w' → wpList P ops Q rest (a.put o.dst (goInt cs.length)) w') : wpList P ops Q (o :: rest) a w :=
  wpList_plain hgd fun K hK => by
    have hw : Region.wanted o (yielded ops a.tmps) = true := by simp [Region.wanted, hgd]
    have := step_copy_h (E := False) (K := K) (Q := Q) (ops := ops) hgd d s dT sT ho elem hu hsz dp sp dLen dCap sLen sCap hd hs g off cur t hg cs hn hpos hfit h1 fun w' h1 h2 => hK _ _ (h w' h1 h2)
    rwa [if_pos hw] at this
/-- append of so many zeros where there is no room: a new row. -/
theorem wpList_append_zeros_h (hgd : o.guard = none) (s x : Operand) (t tn : TypeId) (ho : o.op = .call { callee := .builtin .append, args := #[s, x], argTypes := #[t, tn] })
    (e : TypeId) (i : TypeInfo) (kn : IntKind) (ht : P.underlying t = some (.slice e)) (htn : P.underlying tn = some (.int kn)) (hi : P.info? e = some i) (hz : i.zero = some (.int .i64 0)) (hsz : i.size = 1) (hby : i.bytes = 8)
    (g off n c : Nat) (hs : a.eval s = .slice (some ⟨g, off, none⟩) n c) (k : Nat) (hx : a.eval x = .int .i64 (k : Int)) (olds : List Value) (hl : olds.length = n) (hold : ∀ j v, olds[j]? = some v → w.cell? ⟨g, off + j, none⟩ = some v)
    (h0 : 0 < k) (hg : c < n + k) (hb : (n + k) * 8 ≤ 140737488355328)
    (h : ∀ w' R G (row : List Value), w.heap.size = R → w'.heap[R]? = some (.cells row.toArray e (0, 0)) → Below w.heap.size w w' → n + k ≤ G → G ≤ maxLen → row.length = G → row.take n = olds →
      wpList P ops Q rest (a.put o.dst (.slice (some ⟨R, 0, none⟩) (n + k) G)) w') : wpList P ops Q (o :: rest) a w := by
  have hf : (Builtin.firstCells i.size n (.slice (some ⟨g, off, none⟩) n c)).run P w.drew = .ok olds.toArray w.drew := by
    rw [hsz]
    exact run_firstCells_some w.drew 1 n ⟨g, off, none⟩ n c olds (by omega) (fun j v hj => by
      have hadd : (⟨g, off, none⟩ : Addr).add j = ⟨g, off + j, none⟩ := by unfold Addr.add; split <;> simp_all
      rw [hadd]
      exact hold j v hj)
  have hr := Lib.run_append_grow_zeros (P := P) w t tn o.type e i _ .i64 kn ht htn hi hz (some ⟨g, off, none⟩) n c olds hf k h0 (by omega) hg (by omega) (by rw [hby]; omega) (by rw [hby]; exact growslice_fits hg hb)
  have hge := grownCap_ge w (n + k) c e
  have hle := grownCap_le_maxLen w (n + k) c e (by unfold maxLen; omega)
  refine Lib.wpList_append_run w hgd s x t tn ho _ _ hs hx _ _ hr ?_
  refine h _ _ (grownCap w (n + k) c e) (olds ++ (Builtin.zeroCells (Value.int .i64 0).cells k).toList ++ (Builtin.zeroCells (Value.int .i64 0).cells (grownCap w (n + k) c e - (n + k))).toList) rfl ?_ ?_ hge hle ?_ ?_
  · rw [show (olds ++ (Builtin.zeroCells (Value.int .i64 0).cells k).toList ++ (Builtin.zeroCells (Value.int .i64 0).cells (grownCap w (n + k) c e - (n + k))).toList).toArray = olds.toArray ++ Builtin.zeroCells (Value.int .i64 0).cells k ++ Builtin.zeroCells (Value.int .i64 0).cells (grownCap w (n + k) c e - (n + k)) from by apply Array.toList_inj.1; simp]
    exact heap_alloc_new w.drew _
  · exact (Below.refl _ _).drew.alloc (Nat.le_refl _) _
  · simp [Builtin.zeroCells, Value.cells]
    omega
  · rw [List.append_assoc, List.take_left' hl]
end
/-- A row that is known whole, as numbers of the call's own. -/
theorem NumsNew.of_row {base g : Nat} {w : World} {cur : List Value} {T : TypeId} {L : List Int} (hg : w.heap[g]? = some (.cells cur.toArray T (0, 0))) (ht : cur.take L.length = ncells L) (hb : base ≤ g) : NumsNew base w.heap.size w (some ⟨g, 0, none⟩) L := by
  have hlt := heap_lt hg
  refine .inr ⟨g, 0, rfl, hb, hlt, hlt, fun j hj => frozen_of_row w g (0 + j) _ _ hg, fun i x hx => ?_⟩
  have hi : i < L.length := (List.getElem?_eq_some_iff.1 hx).1
  rw [Nat.zero_add, cell_of_row w g i _ _ (0, 0) hg]
  have h1 := ncells_at L i x hx
  rw [← ht, List.getElem?_take, if_pos hi] at h1
  simpa using h1
end Go.Proofs.Ytpolpkheaibonaa
/- Where a number stands among rising ones: slices.BinarySearch. Nothing that was there is written. -/
namespace Go.Proofs.Ytpolpkheaibonaa
open Go.RowKit Go.Joins
set_option linter.unusedVariables false

/-- Of rising numbers a later one is greater. -/
theorem riseB_lt {p : Int} {l : List Int} (h : riseB p l = true) : ∀ (i j : Nat) x y, i < j → l[i]? = some x → l[j]? = some y → x < y := by
  induction l generalizing p with
  | nil => intro i j x y _ hx; simp at hx
  | cons z r ih =>
    obtain ⟨h0, h1, h2⟩ := riseB_cons h
    intro i j x y hij hx hy
    rcases j with _ | j
    · omega
    have hy' : r[j]? = some y := by simpa using hy
    rcases i with _ | i
    · have hz : z = x := by simpa using hx
      subst hz
      exact (riseB_mem h2 y (List.mem_of_getElem? hy')).1
    · exact ih h2 i j x y (by omega) (by simpa using hx) hy'
theorem rise_at {p : Int} {l : List Int} (h : riseB p l = true) : ∀ i j, i ≤ j → j < l.length → numAt l i ≤ numAt l j := by
  intro i j hij hj
  rcases Nat.eq_or_lt_of_le hij with rfl | hlt
  · exact Int.le_refl _
  · exact Int.le_of_lt (riseB_lt h i j _ _ hlt (numAt_some (by omega)) (numAt_some hj))
/-- Where the look for x ends, there it stands, if it does. -/
theorem search_there {p : Int} {l : List Int} (h : riseB p l = true) (x : Int) (i : Nat) (hb : ∀ t, t < i → numAt l t < x) (ha : ∀ t, i ≤ t → t < l.length → x ≤ numAt l t) (hi : i ≤ l.length) :
    i = cntI l x ∧ decide (x ∈ l) = decide (i < l.length ∧ numAt l i = x) := by
  refine ⟨cntI_of hi (fun j y hj hy => ?_) (fun y hy => ?_), ?_⟩
  · have := hb j hj
    have hl := (List.getElem?_eq_some_iff.1 hy).1
    rw [numAt_some hl] at hy
    rw [← Option.some.inj hy]
    exact this
  · have hl := (List.getElem?_eq_some_iff.1 hy).1
    have := ha i (Nat.le_refl _) hl
    rw [numAt_some hl] at hy
    rw [← Option.some.inj hy]
    omega
  · refine decide_eq_decide.2 ⟨fun hx => ?_, fun ⟨hl, hx⟩ => ?_⟩
    · obtain ⟨j, hj⟩ := List.getElem?_of_mem hx
      have hl := (List.getElem?_eq_some_iff.1 hj).1
      rw [numAt_some hl] at hj
      have hj := Option.some.inj hj
      have hij : i ≤ j := by
        rcases Nat.lt_or_ge j i with h' | h'
        · have := hb j h'
          omega
        · exact h'
      have h1 := rise_at h i j hij hl
      have h2 := ha i (Nat.le_refl _) (by omega)
      exact ⟨by omega, by omega⟩
    · rw [← hx]
      exact List.mem_of_getElem? (numAt_some hl)

end Go.Proofs.Ytpolpkheaibonaa
/- The next address that is not taken: the model's and the program's; two names alike. Nothing that was there is written. -/
namespace Go.Proofs.Ytpolpkheaibonaa
open Go.RowKit
set_option linter.unusedVariables false

/-- Who has as many as there are has all of them. -/
theorem riseB_full {p : Int} {l : List Int} (h : riseB p l = true) (hp : -1 ≤ p) (hl : 251 - p ≤ (l.length : Int)) : ∀ v : Int, p < v → v ≤ 251 → v ∈ l := by
  induction l generalizing p with
  | nil => intro v h1 h2; simp at hl; omega
  | cons y r ih =>
    obtain ⟨h0, h1, h2⟩ := riseB_cons h
    have h3 := riseB_len h2 h0.2
    simp at hl
    have hy : y = p + 1 := by omega
    intro v hv hv'
    rcases Int.lt_or_le y v with h' | h'
    · exact List.mem_cons_of_mem _ (ih h2 (by omega) (by omega) v h' hv')
    · have : v = y := by omega
      subst this
      exact List.mem_cons_self
/-- One that is in stays: nothing is put in. -/
theorem takeI_in {p : Int} {l : List Int} {x : Int} (h : riseB p l = true) (hx : x ∈ l) : takeI l x = l := by
  induction l generalizing p with
  | nil => cases hx
  | cons y r ih =>
    obtain ⟨h0, h1, h2⟩ := riseB_cons h
    unfold takeI
    rcases List.mem_cons.1 hx with rfl | hx
    · rw [if_neg (by omega), if_pos rfl]
    · have := (riseB_mem h2 x hx).1
      rw [if_pos this, ih h2 hx]
theorem takeI_out {l : List Int} {x : Int} (hx : x ∉ l) : takeI l x = l.take (cntI l x) ++ x :: l.drop (cntI l x) := by
  rw [takeI_form, if_neg]
  intro h
  exact hx (List.mem_of_getElem? h)
theorem takeI_len (l : List Int) (x : Int) : l.length ≤ (takeI l x).length ∧ (takeI l x).length ≤ l.length + 1 := by
  induction l with
  | nil => simp [takeI]
  | cons y r ih =>
    unfold takeI
    split
    · simp; omega
    split
    · simp
    · simp
theorem nextF_step (l : List Int) (f : Nat) (a : Int) : nextF l (f + 1) a = if (a + 1) % 252 ∈ l then nextF l f ((a + 1) % 252) else (a + 1) % 252 := rfl
theorem beq_flip (a b : Int) : (a == b) = decide (b = a) := by
  rcases Decidable.em (a = b) with h | h
  · subst h; simp
  · rw [decide_eq_false (fun e => h e.symm)]; simpa using h
/-- What nextFree answers. -/
def freeI (l : List Int) (a : Int) : Int := if 251 < l.length then 254 else nextI l a

theorem if8_no {α : Type} {A B : α} {c0 c1 c2 c3 c4 c5 c6 c7 : Prop} [Decidable c0] [Decidable c1] [Decidable c2] [Decidable c3] [Decidable c4] [Decidable c5] [Decidable c6] [Decidable c7] (h : ¬ (c0 ∧ c1 ∧ c2 ∧ c3 ∧ c4 ∧ c5 ∧ c6 ∧ c7)) : (if c0 then (if c1 then (if c2 then (if c3 then (if c4 then (if c5 then (if c6 then (if c7 then A else B) else B) else B) else B) else B) else B) else B) else B) = B := by
  repeat' split
  all_goals first | rfl | exact absurd ⟨by assumption, by assumption, by assumption, by assumption, by assumption, by assumption, by assumption, by assumption⟩ h
set_option maxRecDepth 100000 in
theorem wpList_eql_nm {ops : Array Oper} {rest : List Oper} {o : Oper} {a : Act} {w : World} {Q : Exit → Act → World → Prop} (hgd : Region.wanted o (yielded ops a.tmps) = true) (x y : Operand) (tt : TypeId)
    (ho : o.op = .binOp .eql 33 x y tt) (n0 n1 n2 n3 n4 n5 n6 m0 m1 m2 m3 m4 m5 m6 : Int) (n7 m7 : Bool)
    (hx : a.eval x = .agg #[.int .i64 n0, .int .i64 n1, .int .i64 n2, .int .i64 n3, .int .i64 n4, .int .i64 n5, .int .i64 n6, .bool n7]) (hy : a.eval y = .agg #[.int .i64 m0, .int .i64 m1, .int .i64 m2, .int .i64 m3, .int .i64 m4, .int .i64 m5, .int .i64 m6, .bool m7])
    (b : Bool) (hb : b = decide (n0 = m0 ∧ n1 = m1 ∧ n2 = m2 ∧ n3 = m3 ∧ n4 = m4 ∧ n5 = m5 ∧ n6 = m6 ∧ n7 = m7))
    (h : wpList Try.prog ops Q rest (a.put o.dst (.bool b)) w) : wpList Try.prog ops Q (o :: rest) a w :=
  BigFrame.wpList_want hgd fun K hK => by
    have hk := hK _ _ h
    unfold Oper.wp execOp
    rw [ho]
    dsimp only
    rw [hx, hy]
    cases b
    · have hn : ¬ (n0 = m0 ∧ n1 = m1 ∧ n2 = m2 ∧ n3 = m3 ∧ n4 = m4 ∧ n5 = m5 ∧ n6 = m6 ∧ n7 = m7) := fun q => by
        rw [decide_eq_true q] at hb
        cases hb
      simp [go_sem]
      rw [if8_no hn]
      exact hk
    · have hn : n0 = m0 ∧ n1 = m1 ∧ n2 = m2 ∧ n3 = m3 ∧ n4 = m4 ∧ n5 = m5 ∧ n6 = m6 ∧ n7 = m7 := of_decide_eq_true hb.symm
      obtain ⟨rfl, rfl, rfl, rfl, rfl, rfl, rfl, rfl⟩ := hn
      simp [go_sem]
      exact hk
end Go.Proofs.Ytpolpkheaibonaa
/- An address more among those that are taken: the model's. Nothing that was there is written. -/
namespace Go.Proofs.Ytpolpkheaibonaa
open Go.RowKit Go.Joins
set_option linter.unusedVariables false

theorem nums_one (W : World) (x : Int) (T : TypeId) : NumsIn (W.alloc (.cells #[.int .i64 x] T)) (some ⟨W.heap.size, 0, none⟩) [x] := by
  refine .inr ⟨W.heap.size, 0, rfl, by simp, fun i y hy => ?_⟩
  rcases i with _ | i
  · simp at hy
    subst hy
    simp [go_sem]
  · simp at hy
end Go.Proofs.Ytpolpkheaibonaa
/- An address more among those that are taken: the program's, and the model's with its answer as numbers. Nothing that was there is written. -/
namespace Go.Proofs.Ytpolpkheaibonaa
open Go.RowKit
set_option linter.unusedVariables false

/-- What is taken behind a claim of x. -/
def takenI (l : List Int) (x : Int) : List Int := if inB 0 251 x = true then takeI l x else l
theorem takenI_rise {l : List Int} {x : Int} (h : riseB (-1) l = true) : riseB (-1) (takenI l x) = true := by
  unfold takenI
  split
  · rename_i hi
    have := inB_of hi
    exact takeI_rise h (by omega) this
  · exact h
theorem takenI_len {l : List Int} {x : Int} (h : riseB (-1) l = true) : (takenI l x).length ≤ 252 := by
  have := riseB_len (takenI_rise (x := x) h) (by omega)
  omega
end Go.Proofs.Ytpolpkheaibonaa
/- A tick of a right Claim: the model's. Nothing that was there is written. -/
namespace Go.Proofs.Ytpolpkheaibonaa
open Go.RowKit
set_option linter.unusedVariables false

end Go.Proofs.Ytpolpkheaibonaa
/- A tick of a Claim: the model's and the program's. Nothing that was there is written. -/
namespace Go.Proofs.Ytpolpkheaibonaa
open Go.RowKit
set_option linter.unusedVariables false

/-- The Claim of which nothing is said. -/
def zeroCl : Cl := ⟨⟨0, 0, 0, 0, 0, 0, 0, false⟩, 0, 0, 0, []⟩
/-- The answer is that Claim, in memory of its own, with that Send and that Code. -/
def ClOut (w : World) (c : Cl) (s : Bool) (k : Int) (e : Ending) (w' : World) : Prop :=
  ∃ a cap, e = .returned (clOutV c.n c.ad c.st c.lf (.slice a c.tk.length cap) s k) ∧ NumsNew w.heap.size w'.heap.size w' a c.tk ∧ Below w.heap.size w w'
/-- What a tick answers. -/
def tickO (c : Cl) : Cl × Int := if clB c = true then (tickC c, 0) else (zeroCl, 1)
theorem tickC_form (n : Nm) (ad st lf : Int) (l : List Int) : tickC ⟨n, ad, st, lf, l⟩ = ⟨n, ad, (tickC ⟨n, ad, st, lf, l⟩).st, (tickC ⟨n, ad, st, lf, l⟩).lf, l⟩ := by
  unfold tickC
  split <;> rfl
theorem tickO_len (n : Nm) (ad st lf : Int) (l : List Int) (h : l.length ≤ 1048576) : ∃ (d : Cl) (c : Int), tickO ⟨n, ad, st, lf, l⟩ = (d, c) ∧ d.tk.length ≤ 1048576 := by
  unfold tickO
  split
  · rw [tickC_form]
    exact ⟨_, _, rfl, h⟩
  · exact ⟨_, _, rfl, by show ([] : List Int).length ≤ _; simp⟩
end Go.Proofs.Ytpolpkheaibonaa
/- A Claim that waits, and a new one: the program's. Nothing that was there is written. -/
namespace Go.Proofs.Ytpolpkheaibonaa
open Go.RowKit
set_option linter.unusedVariables false

set_option maxRecDepth 100000 in
set_option maxHeartbeats 2000000 in
theorem waitingFor_any (n : Nm) (ad : Int) (a : Option Addr) (N cap : Nat) (w : World) :
    Calls Try.prog 131 #[nmV n, .int .i64 ad, .slice a N cap] w fun e w' => e = .returned (clV n ad 1 250 (.slice a N cap)) ∧ Below w.heap.size w w' := by
  obtain ⟨n0, n1, n2, n3, n4, n5, n6, n7⟩ := n
  unfold clV
  unfold nmV
  dsimp only
  have HB := Lib.hid (((Below.refl w.heap.size w).alloc (Nat.le_refl _) (.cells #[.int .i64 n0, .int .i64 n1, .int .i64 n2, .int .i64 n3, .int .i64 n4, .int .i64 n5, .int .i64 n6, .bool n7] 33)).alloc (by simp) (.cells #[.int .i64 n0, .int .i64 n1, .int .i64 n2, .int .i64 n3, .int .i64 n4, .int .i64 n5, .int .i64 n6, .bool n7, .int .i64 ad, .int .i64 1, .int .i64 250, .slice a N cap] 60))
  go_enter Try.func131, Try.ntmps131
  go_wp2
  exact bodyPost_ret (results_cell_row (p := 6) (ty := 60) (by kernel_rfl) _ _ (w.heap.size + 1) 60 _ (0, 0) _ rfl (heap_next w _ _) Try.underlying60 rfl (by kernel_rfl)) rfl ⟨rfl, HB.out⟩
set_option maxRecDepth 100000 in
set_option maxHeartbeats 2000000 in
theorem implClaimNew_any (n : Nm) (want : Int) (w : World) :
    Calls Try.prog 85 #[nmV n, .int .i64 want] w fun e w' => e = .returned (clNewV n want) ∧ Below w.heap.size w w' := by
  have HN := fun W => Lib.hid (implNameOk_any n W)
  have HA := fun W => Lib.hid (from0_any want 251 W)
  have HF := fun W => Lib.hid (waitingFor_any n want none 0 0 W)
  obtain ⟨V, hV⟩ : ∃ V, clNewV n want = V := ⟨_, rfl⟩
  have HV := Lib.hid (show (if (okB n && inB 0 251 want) = true then clOutV n want 1 250 (.slice none 0 0) true 0 else clOutV ⟨0, 0, 0, 0, 0, 0, 0, false⟩ 0 0 0 (.slice none 0 0) false 1) = V from hV)
  rw [hV]
  clear hV
  generalize okB n = vn at *
  generalize inB 0 251 want = va at *
  obtain ⟨n0, n1, n2, n3, n4, n5, n6, n7⟩ := n
  unfold clOutV at HV
  unfold clV at HF
  unfold nmV at *
  dsimp only at *
  have HX := Lib.hid (heap_next w (.cells #[.int .i64 n0, .int .i64 n1, .int .i64 n2, .int .i64 n3, .int .i64 n4, .int .i64 n5, .int .i64 n6, .bool n7] 33) (.cells #[.int .i64 0, .int .i64 0, .int .i64 0, .int .i64 0, .int .i64 0, .int .i64 0, .int .i64 0, .bool false, .int .i64 0, .int .i64 0, .int .i64 0, .slice none 0 0, .bool false, .int .i64 0] 129))
  have HM := Lib.hid ((Below.heap_alloc (w.alloc (.cells #[.int .i64 n0, .int .i64 n1, .int .i64 n2, .int .i64 n3, .int .i64 n4, .int .i64 n5, .int .i64 n6, .bool n7] 33)) (.cells #[.int .i64 0, .int .i64 0, .int .i64 0, .int .i64 0, .int .i64 0, .int .i64 0, .int .i64 0, .bool false, .int .i64 0, .int .i64 0, .int .i64 0, .slice none 0 0, .bool false, .int .i64 0] 129) w.heap.size (by simp)).trans (heap_alloc_new w (.cells #[.int .i64 n0, .int .i64 n1, .int .i64 n2, .int .i64 n3, .int .i64 n4, .int .i64 n5, .int .i64 n6, .bool n7] 33)))
  have HB := Lib.hid (((Below.refl w.heap.size w).alloc (Nat.le_refl _) (.cells #[.int .i64 n0, .int .i64 n1, .int .i64 n2, .int .i64 n3, .int .i64 n4, .int .i64 n5, .int .i64 n6, .bool n7] 33)).alloc (by simp) (.cells #[.int .i64 0, .int .i64 0, .int .i64 0, .int .i64 0, .int .i64 0, .int .i64 0, .int .i64 0, .bool false, .int .i64 0, .int .i64 0, .int .i64 0, .slice none 0 0, .bool false, .int .i64 0] 129))
  go_enter Try.func85, Try.ntmps85
  go_wp2_with fail
  refine (HN _).out.mono ?_
  rintro e w1 ⟨rfl, h1⟩
  have HX1 := Lib.hid ((h1.block (w.heap.size + 1) (by simp)).trans HX.out)
  have HM1 := Lib.hid ((h1.block w.heap.size (by simp; omega)).trans HM.out)
  have HB1 := Lib.hid (HB.out.trans (h1.mono (by simp; omega)))
  have s1 : w.heap.size + 1 < w1.heap.size := heap_lt HX1.out
  clear h1 HX HM HB
  cases vn
  · go_wp2_with (refine wpList_put_row rfl 129 (.tmp 4) (.tmp 13) rfl rfl (w.heap.size + 1) #[.int .i64 0, .int .i64 0, .int .i64 0, .int .i64 0, .int .i64 0, .int .i64 0, .int .i64 0, .bool false, .int .i64 0, .int .i64 0, .int .i64 0, .slice none 0 0, .bool false, .int .i64 1] rfl rfl 129 _ HX1.out (by kernel_rfl) rfl rfl ?_; intro w2 hR hO; have HR := Lib.hid hR; have HO := Lib.hid hO; clear hR hO)
    exact bodyPost_ret (results_cell_row (p := 4) (ty := 129) (by kernel_rfl) _ _ (w.heap.size + 1) 129 _ (0, 0) _ rfl HR.out Try.underlying129 rfl (by kernel_rfl)) rfl ⟨by rw [← HV.out]; rfl, HO.out.below HB1.out (by omega) (by omega)⟩
  cases va
  · go_wp2_with (first
      | (go_at_call 48; refine (HA _).out.mono ?_; rintro e w' ⟨rfl, rfl⟩)
      | (refine wpList_put_row rfl 129 (.tmp 4) (.tmp 13) rfl rfl (w.heap.size + 1) #[.int .i64 0, .int .i64 0, .int .i64 0, .int .i64 0, .int .i64 0, .int .i64 0, .int .i64 0, .bool false, .int .i64 0, .int .i64 0, .int .i64 0, .slice none 0 0, .bool false, .int .i64 1] rfl rfl 129 _ HX1.out (by kernel_rfl) rfl rfl ?_; intro w2 hR hO; have HR := Lib.hid hR; have HO := Lib.hid hO; clear hR hO))
    exact bodyPost_ret (results_cell_row (p := 4) (ty := 129) (by kernel_rfl) _ _ (w.heap.size + 1) 129 _ (0, 0) _ rfl HR.out Try.underlying129 rfl (by kernel_rfl)) rfl ⟨by rw [← HV.out]; rfl, HO.out.below HB1.out (by omega) (by omega)⟩
  · go_wp2_with (first
      | (go_at_call 48; refine (HA _).out.mono ?_; rintro e w' ⟨rfl, rfl⟩)
      | (refine wpList_load_row rfl 33 (.tmp 2) rfl w.heap.size rfl 33 _ (0, 0) _ HM1.out Try.underlying33 rfl (by kernel_rfl) ?_)
      | (go_at_call 131; refine (HF _).out.mono ?_; rintro e w2 ⟨rfl, h2⟩; have HX2 := Lib.hid ((h2.block _ s1).trans HX1.out); have HB2 := Lib.hid (HB1.out.trans (h2.mono (by omega))); have s2 : w.heap.size + 1 < w2.heap.size := heap_lt HX2.out; clear h2)
      | (refine wpList_put_row rfl 129 (.tmp 4) (.tmp 17) rfl rfl (w.heap.size + 1) #[.int .i64 n0, .int .i64 n1, .int .i64 n2, .int .i64 n3, .int .i64 n4, .int .i64 n5, .int .i64 n6, .bool n7, .int .i64 want, .int .i64 1, .int .i64 250, .slice none 0 0, .bool true, .int .i64 0] rfl rfl 129 _ HX2.out (by kernel_rfl) rfl rfl ?_; intro w3 hR hO; have HR := Lib.hid hR; have HO := Lib.hid hO; clear hR hO))
    exact bodyPost_ret (results_cell_row (p := 4) (ty := 129) (by kernel_rfl) _ _ (w.heap.size + 1) 129 _ (0, 0) _ rfl HR.out Try.underlying129 rfl (by kernel_rfl)) rfl ⟨by rw [← HV.out]; rfl, HO.out.below HB2.out (by omega) (by omega)⟩
end Go.Proofs.Ytpolpkheaibonaa
/- Which of two Names is less: the program's. For every two; nothing that was there is written. -/
namespace Go.Proofs.Ytpolpkheaibonaa
open Go.RowKit
set_option linter.unusedVariables false

set_option maxRecDepth 100000 in
set_option maxHeartbeats 8000000 in
theorem implNameLess_any (a b : Nm) (w : World) :
    Calls Try.prog 51 #[nmV a, nmV b] w fun e w' => e = .returned (.bool (nmLessB a b)) ∧ Below w.heap.size w w' := by
  have HA := fun W => Lib.hid (implNameOk_any a W)
  have HB := fun W => Lib.hid (implNameOk_any b W)
  have hb0 : ∀ o o' : Obj, Below w.heap.size w ((w.alloc o).alloc o') := fun o o' => ((Below.refl _ _).alloc (Nat.le_refl _) _).alloc (by simp) _
  have HB0 := Lib.hid hb0
  clear hb0
  obtain ⟨a0, a1, a2, a3, a4, a5, a6, a7⟩ := a
  obtain ⟨b0, b1, b2, b3, b4, b5, b6, b7⟩ := b
  rcases ha : okB ⟨a0, a1, a2, a3, a4, a5, a6, a7⟩
  · have HO := Lib.hid (show nmLessB ⟨a0, a1, a2, a3, a4, a5, a6, a7⟩ ⟨b0, b1, b2, b3, b4, b5, b6, b7⟩ = false by simp [nmLessB, ha])
    rw [ha] at HA
    clear ha HB
    unfold nmV at *
    go_enter Try.func51, Try.ntmps51
    go_wp2_with fail
    have bU0 := HB0.out (.cells #[.int .i64 a0, .int .i64 a1, .int .i64 a2, .int .i64 a3, .int .i64 a4, .int .i64 a5, .int .i64 a6, .bool a7] 33) (.cells #[.int .i64 b0, .int .i64 b1, .int .i64 b2, .int .i64 b3, .int .i64 b4, .int .i64 b5, .int .i64 b6, .bool b7] 33)
    have kU : ((((w.alloc (.cells #[.int .i64 a0, .int .i64 a1, .int .i64 a2, .int .i64 a3, .int .i64 a4, .int .i64 a5, .int .i64 a6, .bool a7] 33)).alloc (.cells #[.int .i64 b0, .int .i64 b1, .int .i64 b2, .int .i64 b3, .int .i64 b4, .int .i64 b5, .int .i64 b6, .bool b7] 33)).cell? ⟨w.heap.size, 0, none⟩ = some (.int .i64 a0) ∧ ((w.alloc (.cells #[.int .i64 a0, .int .i64 a1, .int .i64 a2, .int .i64 a3, .int .i64 a4, .int .i64 a5, .int .i64 a6, .bool a7] 33)).alloc (.cells #[.int .i64 b0, .int .i64 b1, .int .i64 b2, .int .i64 b3, .int .i64 b4, .int .i64 b5, .int .i64 b6, .bool b7] 33)).cell? ⟨w.heap.size, 1, none⟩ = some (.int .i64 a1) ∧ ((w.alloc (.cells #[.int .i64 a0, .int .i64 a1, .int .i64 a2, .int .i64 a3, .int .i64 a4, .int .i64 a5, .int .i64 a6, .bool a7] 33)).alloc (.cells #[.int .i64 b0, .int .i64 b1, .int .i64 b2, .int .i64 b3, .int .i64 b4, .int .i64 b5, .int .i64 b6, .bool b7] 33)).cell? ⟨w.heap.size, 2, none⟩ = some (.int .i64 a2) ∧ ((w.alloc (.cells #[.int .i64 a0, .int .i64 a1, .int .i64 a2, .int .i64 a3, .int .i64 a4, .int .i64 a5, .int .i64 a6, .bool a7] 33)).alloc (.cells #[.int .i64 b0, .int .i64 b1, .int .i64 b2, .int .i64 b3, .int .i64 b4, .int .i64 b5, .int .i64 b6, .bool b7] 33)).cell? ⟨w.heap.size, 3, none⟩ = some (.int .i64 a3) ∧ ((w.alloc (.cells #[.int .i64 a0, .int .i64 a1, .int .i64 a2, .int .i64 a3, .int .i64 a4, .int .i64 a5, .int .i64 a6, .bool a7] 33)).alloc (.cells #[.int .i64 b0, .int .i64 b1, .int .i64 b2, .int .i64 b3, .int .i64 b4, .int .i64 b5, .int .i64 b6, .bool b7] 33)).cell? ⟨w.heap.size, 4, none⟩ = some (.int .i64 a4) ∧ ((w.alloc (.cells #[.int .i64 a0, .int .i64 a1, .int .i64 a2, .int .i64 a3, .int .i64 a4, .int .i64 a5, .int .i64 a6, .bool a7] 33)).alloc (.cells #[.int .i64 b0, .int .i64 b1, .int .i64 b2, .int .i64 b3, .int .i64 b4, .int .i64 b5, .int .i64 b6, .bool b7] 33)).cell? ⟨w.heap.size, 5, none⟩ = some (.int .i64 a5) ∧ ((w.alloc (.cells #[.int .i64 a0, .int .i64 a1, .int .i64 a2, .int .i64 a3, .int .i64 a4, .int .i64 a5, .int .i64 a6, .bool a7] 33)).alloc (.cells #[.int .i64 b0, .int .i64 b1, .int .i64 b2, .int .i64 b3, .int .i64 b4, .int .i64 b5, .int .i64 b6, .bool b7] 33)).cell? ⟨w.heap.size, 6, none⟩ = some (.int .i64 a6) ∧ ((w.alloc (.cells #[.int .i64 a0, .int .i64 a1, .int .i64 a2, .int .i64 a3, .int .i64 a4, .int .i64 a5, .int .i64 a6, .bool a7] 33)).alloc (.cells #[.int .i64 b0, .int .i64 b1, .int .i64 b2, .int .i64 b3, .int .i64 b4, .int .i64 b5, .int .i64 b6, .bool b7] 33)).cell? ⟨w.heap.size, 7, none⟩ = some (.bool a7)) ∧ (((w.alloc (.cells #[.int .i64 a0, .int .i64 a1, .int .i64 a2, .int .i64 a3, .int .i64 a4, .int .i64 a5, .int .i64 a6, .bool a7] 33)).alloc (.cells #[.int .i64 b0, .int .i64 b1, .int .i64 b2, .int .i64 b3, .int .i64 b4, .int .i64 b5, .int .i64 b6, .bool b7] 33)).cell? ⟨w.heap.size + 1, 0, none⟩ = some (.int .i64 b0) ∧ ((w.alloc (.cells #[.int .i64 a0, .int .i64 a1, .int .i64 a2, .int .i64 a3, .int .i64 a4, .int .i64 a5, .int .i64 a6, .bool a7] 33)).alloc (.cells #[.int .i64 b0, .int .i64 b1, .int .i64 b2, .int .i64 b3, .int .i64 b4, .int .i64 b5, .int .i64 b6, .bool b7] 33)).cell? ⟨w.heap.size + 1, 1, none⟩ = some (.int .i64 b1) ∧ ((w.alloc (.cells #[.int .i64 a0, .int .i64 a1, .int .i64 a2, .int .i64 a3, .int .i64 a4, .int .i64 a5, .int .i64 a6, .bool a7] 33)).alloc (.cells #[.int .i64 b0, .int .i64 b1, .int .i64 b2, .int .i64 b3, .int .i64 b4, .int .i64 b5, .int .i64 b6, .bool b7] 33)).cell? ⟨w.heap.size + 1, 2, none⟩ = some (.int .i64 b2) ∧ ((w.alloc (.cells #[.int .i64 a0, .int .i64 a1, .int .i64 a2, .int .i64 a3, .int .i64 a4, .int .i64 a5, .int .i64 a6, .bool a7] 33)).alloc (.cells #[.int .i64 b0, .int .i64 b1, .int .i64 b2, .int .i64 b3, .int .i64 b4, .int .i64 b5, .int .i64 b6, .bool b7] 33)).cell? ⟨w.heap.size + 1, 3, none⟩ = some (.int .i64 b3) ∧ ((w.alloc (.cells #[.int .i64 a0, .int .i64 a1, .int .i64 a2, .int .i64 a3, .int .i64 a4, .int .i64 a5, .int .i64 a6, .bool a7] 33)).alloc (.cells #[.int .i64 b0, .int .i64 b1, .int .i64 b2, .int .i64 b3, .int .i64 b4, .int .i64 b5, .int .i64 b6, .bool b7] 33)).cell? ⟨w.heap.size + 1, 4, none⟩ = some (.int .i64 b4) ∧ ((w.alloc (.cells #[.int .i64 a0, .int .i64 a1, .int .i64 a2, .int .i64 a3, .int .i64 a4, .int .i64 a5, .int .i64 a6, .bool a7] 33)).alloc (.cells #[.int .i64 b0, .int .i64 b1, .int .i64 b2, .int .i64 b3, .int .i64 b4, .int .i64 b5, .int .i64 b6, .bool b7] 33)).cell? ⟨w.heap.size + 1, 5, none⟩ = some (.int .i64 b5) ∧ ((w.alloc (.cells #[.int .i64 a0, .int .i64 a1, .int .i64 a2, .int .i64 a3, .int .i64 a4, .int .i64 a5, .int .i64 a6, .bool a7] 33)).alloc (.cells #[.int .i64 b0, .int .i64 b1, .int .i64 b2, .int .i64 b3, .int .i64 b4, .int .i64 b5, .int .i64 b6, .bool b7] 33)).cell? ⟨w.heap.size + 1, 6, none⟩ = some (.int .i64 b6) ∧ ((w.alloc (.cells #[.int .i64 a0, .int .i64 a1, .int .i64 a2, .int .i64 a3, .int .i64 a4, .int .i64 a5, .int .i64 a6, .bool a7] 33)).alloc (.cells #[.int .i64 b0, .int .i64 b1, .int .i64 b2, .int .i64 b3, .int .i64 b4, .int .i64 b5, .int .i64 b6, .bool b7] 33)).cell? ⟨w.heap.size + 1, 7, none⟩ = some (.bool b7))) := by simp [go_sem]
    have zU : ((w.alloc (.cells #[.int .i64 a0, .int .i64 a1, .int .i64 a2, .int .i64 a3, .int .i64 a4, .int .i64 a5, .int .i64 a6, .bool a7] 33)).alloc (.cells #[.int .i64 b0, .int .i64 b1, .int .i64 b2, .int .i64 b3, .int .i64 b4, .int .i64 b5, .int .i64 b6, .bool b7] 33)).heap.size = w.heap.size + 2 := by simp
    generalize (w.alloc (.cells #[.int .i64 a0, .int .i64 a1, .int .i64 a2, .int .i64 a3, .int .i64 a4, .int .i64 a5, .int .i64 a6, .bool a7] 33)).alloc (.cells #[.int .i64 b0, .int .i64 b1, .int .i64 b2, .int .i64 b3, .int .i64 b4, .int .i64 b5, .int .i64 b6, .bool b7] 33) = U at *
    have lA : w.heap.size < U.heap.size := by omega
    have lB : w.heap.size + 1 < U.heap.size := by omega
    clear zU
    obtain ⟨⟨A0, A1, A2, A3, A4, A5, A6, A7⟩, ⟨B0, B1, B2, B3, B4, B5, B6, B7⟩⟩ := kU
    refine wp_region_quiet (C := fun W => Below U.heap.size U W) (by kernel_rfl) (by kernel_rfl) ((Below.refl _ _).drew) ?_
    dsimp only
    go_big_quiet_want; refine ⟨.agg #[.int .i64 a0, .int .i64 a1, .int .i64 a2, .int .i64 a3, .int .i64 a4, .int .i64 a5, .int .i64 a6, .bool a7], fun W hW => (by have y0 := (hW.cell (p := ⟨w.heap.size, 0, none⟩) lA).trans A0; have y1 := (hW.cell (p := ⟨w.heap.size, 1, none⟩) lA).trans A1; have y2 := (hW.cell (p := ⟨w.heap.size, 2, none⟩) lA).trans A2; have y3 := (hW.cell (p := ⟨w.heap.size, 3, none⟩) lA).trans A3; have y4 := (hW.cell (p := ⟨w.heap.size, 4, none⟩) lA).trans A4; have y5 := (hW.cell (p := ⟨w.heap.size, 5, none⟩) lA).trans A5; have y6 := (hW.cell (p := ⟨w.heap.size, 6, none⟩) lA).trans A6; have y7 := (hW.cell (p := ⟨w.heap.size, 7, none⟩) lA).trans A7; simp [Oper.quietAt, Oper.quietUpon, go_sem, y0, y1, y2, y3, y4, y5, y6, y7]), ?_⟩; simp only [Act.put, List.setIfInBounds_toArray, List.set_cons_zero, List.set_cons_succ]; go_big_quiet_on
    go_big_quiet_want; go_big_quiet_op; refine ⟨_, fun W hW => quietCall hW (HA W).out, ?_⟩; go_big_quiet_on
    first | go_big_quiet_skip | (go_big_quiet_want; go_big_quiet_op; first | go_big_quiet_on | (refine ⟨_, fun _ _ => rfl, ?_⟩; go_big_quiet_on))
    first | go_big_quiet_skip | (go_big_quiet_want; go_big_quiet_op; first | go_big_quiet_on | (refine ⟨_, fun _ _ => rfl, ?_⟩; go_big_quiet_on))
    first | go_big_quiet_skip | (go_big_quiet_want; go_big_quiet_op; first | go_big_quiet_on | (refine ⟨_, fun _ _ => rfl, ?_⟩; go_big_quiet_on))
    first | go_big_quiet_skip | (go_big_quiet_want; go_big_quiet_op; first | go_big_quiet_on | (refine ⟨_, fun _ _ => rfl, ?_⟩; go_big_quiet_on))
    first | go_big_quiet_skip | (go_big_quiet_want; go_big_quiet_op; first | go_big_quiet_on | (refine ⟨_, fun _ _ => rfl, ?_⟩; go_big_quiet_on))
    first | go_big_quiet_skip | (go_big_quiet_want; go_big_quiet_op; first | go_big_quiet_on | (refine ⟨_, fun _ _ => rfl, ?_⟩; go_big_quiet_on))
    first | go_big_quiet_skip | (go_big_quiet_want; go_big_quiet_op; first | go_big_quiet_on | (refine ⟨_, fun _ _ => rfl, ?_⟩; go_big_quiet_on))
    first | go_big_quiet_skip | (go_big_quiet_want; go_big_quiet_op; first | go_big_quiet_on | (refine ⟨_, fun _ _ => rfl, ?_⟩; go_big_quiet_on))
    first | go_big_quiet_skip | (go_big_quiet_want; go_big_quiet_op; first | go_big_quiet_on | (refine ⟨_, fun _ _ => rfl, ?_⟩; go_big_quiet_on))
    first | go_big_quiet_skip | (go_big_quiet_want; go_big_quiet_op; first | go_big_quiet_on | (refine ⟨_, fun _ _ => rfl, ?_⟩; go_big_quiet_on))
    first | go_big_quiet_skip | (go_big_quiet_want; go_big_quiet_op; first | go_big_quiet_on | (refine ⟨_, fun _ _ => rfl, ?_⟩; go_big_quiet_on))
    first | go_big_quiet_skip | (go_big_quiet_want; go_big_quiet_op; first | go_big_quiet_on | (refine ⟨_, fun _ _ => rfl, ?_⟩; go_big_quiet_on))
    refine wpQuiet_nil ?_
    intro X hX
    go_wp2
    go_ret
    exact ⟨by rw [HO.out]; rfl, bU0.trans (hX.mono (by omega))⟩
  rcases hb : okB ⟨b0, b1, b2, b3, b4, b5, b6, b7⟩
  · have HO := Lib.hid (show nmLessB ⟨a0, a1, a2, a3, a4, a5, a6, a7⟩ ⟨b0, b1, b2, b3, b4, b5, b6, b7⟩ = false by simp [nmLessB, ha, hb])
    rw [ha] at HA
    rw [hb] at HB
    clear ha hb
    unfold nmV at *
    go_enter Try.func51, Try.ntmps51
    go_wp2_with fail
    have bU0 := HB0.out (.cells #[.int .i64 a0, .int .i64 a1, .int .i64 a2, .int .i64 a3, .int .i64 a4, .int .i64 a5, .int .i64 a6, .bool a7] 33) (.cells #[.int .i64 b0, .int .i64 b1, .int .i64 b2, .int .i64 b3, .int .i64 b4, .int .i64 b5, .int .i64 b6, .bool b7] 33)
    have kU : ((((w.alloc (.cells #[.int .i64 a0, .int .i64 a1, .int .i64 a2, .int .i64 a3, .int .i64 a4, .int .i64 a5, .int .i64 a6, .bool a7] 33)).alloc (.cells #[.int .i64 b0, .int .i64 b1, .int .i64 b2, .int .i64 b3, .int .i64 b4, .int .i64 b5, .int .i64 b6, .bool b7] 33)).cell? ⟨w.heap.size, 0, none⟩ = some (.int .i64 a0) ∧ ((w.alloc (.cells #[.int .i64 a0, .int .i64 a1, .int .i64 a2, .int .i64 a3, .int .i64 a4, .int .i64 a5, .int .i64 a6, .bool a7] 33)).alloc (.cells #[.int .i64 b0, .int .i64 b1, .int .i64 b2, .int .i64 b3, .int .i64 b4, .int .i64 b5, .int .i64 b6, .bool b7] 33)).cell? ⟨w.heap.size, 1, none⟩ = some (.int .i64 a1) ∧ ((w.alloc (.cells #[.int .i64 a0, .int .i64 a1, .int .i64 a2, .int .i64 a3, .int .i64 a4, .int .i64 a5, .int .i64 a6, .bool a7] 33)).alloc (.cells #[.int .i64 b0, .int .i64 b1, .int .i64 b2, .int .i64 b3, .int .i64 b4, .int .i64 b5, .int .i64 b6, .bool b7] 33)).cell? ⟨w.heap.size, 2, none⟩ = some (.int .i64 a2) ∧ ((w.alloc (.cells #[.int .i64 a0, .int .i64 a1, .int .i64 a2, .int .i64 a3, .int .i64 a4, .int .i64 a5, .int .i64 a6, .bool a7] 33)).alloc (.cells #[.int .i64 b0, .int .i64 b1, .int .i64 b2, .int .i64 b3, .int .i64 b4, .int .i64 b5, .int .i64 b6, .bool b7] 33)).cell? ⟨w.heap.size, 3, none⟩ = some (.int .i64 a3) ∧ ((w.alloc (.cells #[.int .i64 a0, .int .i64 a1, .int .i64 a2, .int .i64 a3, .int .i64 a4, .int .i64 a5, .int .i64 a6, .bool a7] 33)).alloc (.cells #[.int .i64 b0, .int .i64 b1, .int .i64 b2, .int .i64 b3, .int .i64 b4, .int .i64 b5, .int .i64 b6, .bool b7] 33)).cell? ⟨w.heap.size, 4, none⟩ = some (.int .i64 a4) ∧ ((w.alloc (.cells #[.int .i64 a0, .int .i64 a1, .int .i64 a2, .int .i64 a3, .int .i64 a4, .int .i64 a5, .int .i64 a6, .bool a7] 33)).alloc (.cells #[.int .i64 b0, .int .i64 b1, .int .i64 b2, .int .i64 b3, .int .i64 b4, .int .i64 b5, .int .i64 b6, .bool b7] 33)).cell? ⟨w.heap.size, 5, none⟩ = some (.int .i64 a5) ∧ ((w.alloc (.cells #[.int .i64 a0, .int .i64 a1, .int .i64 a2, .int .i64 a3, .int .i64 a4, .int .i64 a5, .int .i64 a6, .bool a7] 33)).alloc (.cells #[.int .i64 b0, .int .i64 b1, .int .i64 b2, .int .i64 b3, .int .i64 b4, .int .i64 b5, .int .i64 b6, .bool b7] 33)).cell? ⟨w.heap.size, 6, none⟩ = some (.int .i64 a6) ∧ ((w.alloc (.cells #[.int .i64 a0, .int .i64 a1, .int .i64 a2, .int .i64 a3, .int .i64 a4, .int .i64 a5, .int .i64 a6, .bool a7] 33)).alloc (.cells #[.int .i64 b0, .int .i64 b1, .int .i64 b2, .int .i64 b3, .int .i64 b4, .int .i64 b5, .int .i64 b6, .bool b7] 33)).cell? ⟨w.heap.size, 7, none⟩ = some (.bool a7)) ∧ (((w.alloc (.cells #[.int .i64 a0, .int .i64 a1, .int .i64 a2, .int .i64 a3, .int .i64 a4, .int .i64 a5, .int .i64 a6, .bool a7] 33)).alloc (.cells #[.int .i64 b0, .int .i64 b1, .int .i64 b2, .int .i64 b3, .int .i64 b4, .int .i64 b5, .int .i64 b6, .bool b7] 33)).cell? ⟨w.heap.size + 1, 0, none⟩ = some (.int .i64 b0) ∧ ((w.alloc (.cells #[.int .i64 a0, .int .i64 a1, .int .i64 a2, .int .i64 a3, .int .i64 a4, .int .i64 a5, .int .i64 a6, .bool a7] 33)).alloc (.cells #[.int .i64 b0, .int .i64 b1, .int .i64 b2, .int .i64 b3, .int .i64 b4, .int .i64 b5, .int .i64 b6, .bool b7] 33)).cell? ⟨w.heap.size + 1, 1, none⟩ = some (.int .i64 b1) ∧ ((w.alloc (.cells #[.int .i64 a0, .int .i64 a1, .int .i64 a2, .int .i64 a3, .int .i64 a4, .int .i64 a5, .int .i64 a6, .bool a7] 33)).alloc (.cells #[.int .i64 b0, .int .i64 b1, .int .i64 b2, .int .i64 b3, .int .i64 b4, .int .i64 b5, .int .i64 b6, .bool b7] 33)).cell? ⟨w.heap.size + 1, 2, none⟩ = some (.int .i64 b2) ∧ ((w.alloc (.cells #[.int .i64 a0, .int .i64 a1, .int .i64 a2, .int .i64 a3, .int .i64 a4, .int .i64 a5, .int .i64 a6, .bool a7] 33)).alloc (.cells #[.int .i64 b0, .int .i64 b1, .int .i64 b2, .int .i64 b3, .int .i64 b4, .int .i64 b5, .int .i64 b6, .bool b7] 33)).cell? ⟨w.heap.size + 1, 3, none⟩ = some (.int .i64 b3) ∧ ((w.alloc (.cells #[.int .i64 a0, .int .i64 a1, .int .i64 a2, .int .i64 a3, .int .i64 a4, .int .i64 a5, .int .i64 a6, .bool a7] 33)).alloc (.cells #[.int .i64 b0, .int .i64 b1, .int .i64 b2, .int .i64 b3, .int .i64 b4, .int .i64 b5, .int .i64 b6, .bool b7] 33)).cell? ⟨w.heap.size + 1, 4, none⟩ = some (.int .i64 b4) ∧ ((w.alloc (.cells #[.int .i64 a0, .int .i64 a1, .int .i64 a2, .int .i64 a3, .int .i64 a4, .int .i64 a5, .int .i64 a6, .bool a7] 33)).alloc (.cells #[.int .i64 b0, .int .i64 b1, .int .i64 b2, .int .i64 b3, .int .i64 b4, .int .i64 b5, .int .i64 b6, .bool b7] 33)).cell? ⟨w.heap.size + 1, 5, none⟩ = some (.int .i64 b5) ∧ ((w.alloc (.cells #[.int .i64 a0, .int .i64 a1, .int .i64 a2, .int .i64 a3, .int .i64 a4, .int .i64 a5, .int .i64 a6, .bool a7] 33)).alloc (.cells #[.int .i64 b0, .int .i64 b1, .int .i64 b2, .int .i64 b3, .int .i64 b4, .int .i64 b5, .int .i64 b6, .bool b7] 33)).cell? ⟨w.heap.size + 1, 6, none⟩ = some (.int .i64 b6) ∧ ((w.alloc (.cells #[.int .i64 a0, .int .i64 a1, .int .i64 a2, .int .i64 a3, .int .i64 a4, .int .i64 a5, .int .i64 a6, .bool a7] 33)).alloc (.cells #[.int .i64 b0, .int .i64 b1, .int .i64 b2, .int .i64 b3, .int .i64 b4, .int .i64 b5, .int .i64 b6, .bool b7] 33)).cell? ⟨w.heap.size + 1, 7, none⟩ = some (.bool b7))) := by simp [go_sem]
    have zU : ((w.alloc (.cells #[.int .i64 a0, .int .i64 a1, .int .i64 a2, .int .i64 a3, .int .i64 a4, .int .i64 a5, .int .i64 a6, .bool a7] 33)).alloc (.cells #[.int .i64 b0, .int .i64 b1, .int .i64 b2, .int .i64 b3, .int .i64 b4, .int .i64 b5, .int .i64 b6, .bool b7] 33)).heap.size = w.heap.size + 2 := by simp
    generalize (w.alloc (.cells #[.int .i64 a0, .int .i64 a1, .int .i64 a2, .int .i64 a3, .int .i64 a4, .int .i64 a5, .int .i64 a6, .bool a7] 33)).alloc (.cells #[.int .i64 b0, .int .i64 b1, .int .i64 b2, .int .i64 b3, .int .i64 b4, .int .i64 b5, .int .i64 b6, .bool b7] 33) = U at *
    have lA : w.heap.size < U.heap.size := by omega
    have lB : w.heap.size + 1 < U.heap.size := by omega
    clear zU
    obtain ⟨⟨A0, A1, A2, A3, A4, A5, A6, A7⟩, ⟨B0, B1, B2, B3, B4, B5, B6, B7⟩⟩ := kU
    refine wp_region_quiet (C := fun W => Below U.heap.size U W) (by kernel_rfl) (by kernel_rfl) ((Below.refl _ _).drew) ?_
    dsimp only
    go_big_quiet_want; refine ⟨.agg #[.int .i64 a0, .int .i64 a1, .int .i64 a2, .int .i64 a3, .int .i64 a4, .int .i64 a5, .int .i64 a6, .bool a7], fun W hW => (by have y0 := (hW.cell (p := ⟨w.heap.size, 0, none⟩) lA).trans A0; have y1 := (hW.cell (p := ⟨w.heap.size, 1, none⟩) lA).trans A1; have y2 := (hW.cell (p := ⟨w.heap.size, 2, none⟩) lA).trans A2; have y3 := (hW.cell (p := ⟨w.heap.size, 3, none⟩) lA).trans A3; have y4 := (hW.cell (p := ⟨w.heap.size, 4, none⟩) lA).trans A4; have y5 := (hW.cell (p := ⟨w.heap.size, 5, none⟩) lA).trans A5; have y6 := (hW.cell (p := ⟨w.heap.size, 6, none⟩) lA).trans A6; have y7 := (hW.cell (p := ⟨w.heap.size, 7, none⟩) lA).trans A7; simp [Oper.quietAt, Oper.quietUpon, go_sem, y0, y1, y2, y3, y4, y5, y6, y7]), ?_⟩; simp only [Act.put, List.setIfInBounds_toArray, List.set_cons_zero, List.set_cons_succ]; go_big_quiet_on
    go_big_quiet_want; go_big_quiet_op; refine ⟨_, fun W hW => quietCall hW (HA W).out, ?_⟩; go_big_quiet_on
    first | go_big_quiet_skip | (go_big_quiet_want; go_big_quiet_op; first | go_big_quiet_on | (refine ⟨_, fun _ _ => rfl, ?_⟩; go_big_quiet_on))
    go_big_quiet_want; refine ⟨.agg #[.int .i64 b0, .int .i64 b1, .int .i64 b2, .int .i64 b3, .int .i64 b4, .int .i64 b5, .int .i64 b6, .bool b7], fun W hW => (by have y0 := (hW.cell (p := ⟨w.heap.size + 1, 0, none⟩) lB).trans B0; have y1 := (hW.cell (p := ⟨w.heap.size + 1, 1, none⟩) lB).trans B1; have y2 := (hW.cell (p := ⟨w.heap.size + 1, 2, none⟩) lB).trans B2; have y3 := (hW.cell (p := ⟨w.heap.size + 1, 3, none⟩) lB).trans B3; have y4 := (hW.cell (p := ⟨w.heap.size + 1, 4, none⟩) lB).trans B4; have y5 := (hW.cell (p := ⟨w.heap.size + 1, 5, none⟩) lB).trans B5; have y6 := (hW.cell (p := ⟨w.heap.size + 1, 6, none⟩) lB).trans B6; have y7 := (hW.cell (p := ⟨w.heap.size + 1, 7, none⟩) lB).trans B7; simp [Oper.quietAt, Oper.quietUpon, go_sem, y0, y1, y2, y3, y4, y5, y6, y7]), ?_⟩; simp only [Act.put, List.setIfInBounds_toArray, List.set_cons_zero, List.set_cons_succ]; go_big_quiet_on
    go_big_quiet_want; go_big_quiet_op; refine ⟨_, fun W hW => quietCall hW (HB W).out, ?_⟩; go_big_quiet_on
    first | go_big_quiet_skip | (go_big_quiet_want; go_big_quiet_op; first | go_big_quiet_on | (refine ⟨_, fun _ _ => rfl, ?_⟩; go_big_quiet_on))
    first | go_big_quiet_skip | (go_big_quiet_want; go_big_quiet_op; first | go_big_quiet_on | (refine ⟨_, fun _ _ => rfl, ?_⟩; go_big_quiet_on))
    first | go_big_quiet_skip | (go_big_quiet_want; go_big_quiet_op; first | go_big_quiet_on | (refine ⟨_, fun _ _ => rfl, ?_⟩; go_big_quiet_on))
    first | go_big_quiet_skip | (go_big_quiet_want; go_big_quiet_op; first | go_big_quiet_on | (refine ⟨_, fun _ _ => rfl, ?_⟩; go_big_quiet_on))
    first | go_big_quiet_skip | (go_big_quiet_want; go_big_quiet_op; first | go_big_quiet_on | (refine ⟨_, fun _ _ => rfl, ?_⟩; go_big_quiet_on))
    first | go_big_quiet_skip | (go_big_quiet_want; go_big_quiet_op; first | go_big_quiet_on | (refine ⟨_, fun _ _ => rfl, ?_⟩; go_big_quiet_on))
    first | go_big_quiet_skip | (go_big_quiet_want; go_big_quiet_op; first | go_big_quiet_on | (refine ⟨_, fun _ _ => rfl, ?_⟩; go_big_quiet_on))
    first | go_big_quiet_skip | (go_big_quiet_want; go_big_quiet_op; first | go_big_quiet_on | (refine ⟨_, fun _ _ => rfl, ?_⟩; go_big_quiet_on))
    first | go_big_quiet_skip | (go_big_quiet_want; go_big_quiet_op; first | go_big_quiet_on | (refine ⟨_, fun _ _ => rfl, ?_⟩; go_big_quiet_on))
    refine wpQuiet_nil ?_
    intro X hX
    go_wp2
    go_ret
    exact ⟨by rw [HO.out]; rfl, bU0.trans (hX.mono (by omega))⟩
  · have HNA := fun W => Lib.hid (nameNumber_any _ W ha)
    have HNB := fun W => Lib.hid (nameNumber_any _ W hb)
    have hd := show nmLessB ⟨a0, a1, a2, a3, a4, a5, a6, a7⟩ ⟨b0, b1, b2, b3, b4, b5, b6, b7⟩ = decide (nmN ⟨a0, a1, a2, a3, a4, a5, a6, a7⟩ < nmN ⟨b0, b1, b2, b3, b4, b5, b6, b7⟩) by simp [nmLessB, ha, hb]
    rw [ha] at HA
    rw [hb] at HB
    clear ha hb
    generalize nmN ⟨a0, a1, a2, a3, a4, a5, a6, a7⟩ = x at *
    generalize nmN ⟨b0, b1, b2, b3, b4, b5, b6, b7⟩ = y at *
    have HO := Lib.hid (show nmLessB ⟨a0, a1, a2, a3, a4, a5, a6, a7⟩ ⟨b0, b1, b2, b3, b4, b5, b6, b7⟩ = decide (x < y) from hd)
    clear hd
    unfold nmV at *
    go_enter Try.func51, Try.ntmps51
    go_wp2_with fail
    have bU0 := HB0.out (.cells #[.int .i64 a0, .int .i64 a1, .int .i64 a2, .int .i64 a3, .int .i64 a4, .int .i64 a5, .int .i64 a6, .bool a7] 33) (.cells #[.int .i64 b0, .int .i64 b1, .int .i64 b2, .int .i64 b3, .int .i64 b4, .int .i64 b5, .int .i64 b6, .bool b7] 33)
    have kU : ((((w.alloc (.cells #[.int .i64 a0, .int .i64 a1, .int .i64 a2, .int .i64 a3, .int .i64 a4, .int .i64 a5, .int .i64 a6, .bool a7] 33)).alloc (.cells #[.int .i64 b0, .int .i64 b1, .int .i64 b2, .int .i64 b3, .int .i64 b4, .int .i64 b5, .int .i64 b6, .bool b7] 33)).cell? ⟨w.heap.size, 0, none⟩ = some (.int .i64 a0) ∧ ((w.alloc (.cells #[.int .i64 a0, .int .i64 a1, .int .i64 a2, .int .i64 a3, .int .i64 a4, .int .i64 a5, .int .i64 a6, .bool a7] 33)).alloc (.cells #[.int .i64 b0, .int .i64 b1, .int .i64 b2, .int .i64 b3, .int .i64 b4, .int .i64 b5, .int .i64 b6, .bool b7] 33)).cell? ⟨w.heap.size, 1, none⟩ = some (.int .i64 a1) ∧ ((w.alloc (.cells #[.int .i64 a0, .int .i64 a1, .int .i64 a2, .int .i64 a3, .int .i64 a4, .int .i64 a5, .int .i64 a6, .bool a7] 33)).alloc (.cells #[.int .i64 b0, .int .i64 b1, .int .i64 b2, .int .i64 b3, .int .i64 b4, .int .i64 b5, .int .i64 b6, .bool b7] 33)).cell? ⟨w.heap.size, 2, none⟩ = some (.int .i64 a2) ∧ ((w.alloc (.cells #[.int .i64 a0, .int .i64 a1, .int .i64 a2, .int .i64 a3, .int .i64 a4, .int .i64 a5, .int .i64 a6, .bool a7] 33)).alloc (.cells #[.int .i64 b0, .int .i64 b1, .int .i64 b2, .int .i64 b3, .int .i64 b4, .int .i64 b5, .int .i64 b6, .bool b7] 33)).cell? ⟨w.heap.size, 3, none⟩ = some (.int .i64 a3) ∧ ((w.alloc (.cells #[.int .i64 a0, .int .i64 a1, .int .i64 a2, .int .i64 a3, .int .i64 a4, .int .i64 a5, .int .i64 a6, .bool a7] 33)).alloc (.cells #[.int .i64 b0, .int .i64 b1, .int .i64 b2, .int .i64 b3, .int .i64 b4, .int .i64 b5, .int .i64 b6, .bool b7] 33)).cell? ⟨w.heap.size, 4, none⟩ = some (.int .i64 a4) ∧ ((w.alloc (.cells #[.int .i64 a0, .int .i64 a1, .int .i64 a2, .int .i64 a3, .int .i64 a4, .int .i64 a5, .int .i64 a6, .bool a7] 33)).alloc (.cells #[.int .i64 b0, .int .i64 b1, .int .i64 b2, .int .i64 b3, .int .i64 b4, .int .i64 b5, .int .i64 b6, .bool b7] 33)).cell? ⟨w.heap.size, 5, none⟩ = some (.int .i64 a5) ∧ ((w.alloc (.cells #[.int .i64 a0, .int .i64 a1, .int .i64 a2, .int .i64 a3, .int .i64 a4, .int .i64 a5, .int .i64 a6, .bool a7] 33)).alloc (.cells #[.int .i64 b0, .int .i64 b1, .int .i64 b2, .int .i64 b3, .int .i64 b4, .int .i64 b5, .int .i64 b6, .bool b7] 33)).cell? ⟨w.heap.size, 6, none⟩ = some (.int .i64 a6) ∧ ((w.alloc (.cells #[.int .i64 a0, .int .i64 a1, .int .i64 a2, .int .i64 a3, .int .i64 a4, .int .i64 a5, .int .i64 a6, .bool a7] 33)).alloc (.cells #[.int .i64 b0, .int .i64 b1, .int .i64 b2, .int .i64 b3, .int .i64 b4, .int .i64 b5, .int .i64 b6, .bool b7] 33)).cell? ⟨w.heap.size, 7, none⟩ = some (.bool a7)) ∧ (((w.alloc (.cells #[.int .i64 a0, .int .i64 a1, .int .i64 a2, .int .i64 a3, .int .i64 a4, .int .i64 a5, .int .i64 a6, .bool a7] 33)).alloc (.cells #[.int .i64 b0, .int .i64 b1, .int .i64 b2, .int .i64 b3, .int .i64 b4, .int .i64 b5, .int .i64 b6, .bool b7] 33)).cell? ⟨w.heap.size + 1, 0, none⟩ = some (.int .i64 b0) ∧ ((w.alloc (.cells #[.int .i64 a0, .int .i64 a1, .int .i64 a2, .int .i64 a3, .int .i64 a4, .int .i64 a5, .int .i64 a6, .bool a7] 33)).alloc (.cells #[.int .i64 b0, .int .i64 b1, .int .i64 b2, .int .i64 b3, .int .i64 b4, .int .i64 b5, .int .i64 b6, .bool b7] 33)).cell? ⟨w.heap.size + 1, 1, none⟩ = some (.int .i64 b1) ∧ ((w.alloc (.cells #[.int .i64 a0, .int .i64 a1, .int .i64 a2, .int .i64 a3, .int .i64 a4, .int .i64 a5, .int .i64 a6, .bool a7] 33)).alloc (.cells #[.int .i64 b0, .int .i64 b1, .int .i64 b2, .int .i64 b3, .int .i64 b4, .int .i64 b5, .int .i64 b6, .bool b7] 33)).cell? ⟨w.heap.size + 1, 2, none⟩ = some (.int .i64 b2) ∧ ((w.alloc (.cells #[.int .i64 a0, .int .i64 a1, .int .i64 a2, .int .i64 a3, .int .i64 a4, .int .i64 a5, .int .i64 a6, .bool a7] 33)).alloc (.cells #[.int .i64 b0, .int .i64 b1, .int .i64 b2, .int .i64 b3, .int .i64 b4, .int .i64 b5, .int .i64 b6, .bool b7] 33)).cell? ⟨w.heap.size + 1, 3, none⟩ = some (.int .i64 b3) ∧ ((w.alloc (.cells #[.int .i64 a0, .int .i64 a1, .int .i64 a2, .int .i64 a3, .int .i64 a4, .int .i64 a5, .int .i64 a6, .bool a7] 33)).alloc (.cells #[.int .i64 b0, .int .i64 b1, .int .i64 b2, .int .i64 b3, .int .i64 b4, .int .i64 b5, .int .i64 b6, .bool b7] 33)).cell? ⟨w.heap.size + 1, 4, none⟩ = some (.int .i64 b4) ∧ ((w.alloc (.cells #[.int .i64 a0, .int .i64 a1, .int .i64 a2, .int .i64 a3, .int .i64 a4, .int .i64 a5, .int .i64 a6, .bool a7] 33)).alloc (.cells #[.int .i64 b0, .int .i64 b1, .int .i64 b2, .int .i64 b3, .int .i64 b4, .int .i64 b5, .int .i64 b6, .bool b7] 33)).cell? ⟨w.heap.size + 1, 5, none⟩ = some (.int .i64 b5) ∧ ((w.alloc (.cells #[.int .i64 a0, .int .i64 a1, .int .i64 a2, .int .i64 a3, .int .i64 a4, .int .i64 a5, .int .i64 a6, .bool a7] 33)).alloc (.cells #[.int .i64 b0, .int .i64 b1, .int .i64 b2, .int .i64 b3, .int .i64 b4, .int .i64 b5, .int .i64 b6, .bool b7] 33)).cell? ⟨w.heap.size + 1, 6, none⟩ = some (.int .i64 b6) ∧ ((w.alloc (.cells #[.int .i64 a0, .int .i64 a1, .int .i64 a2, .int .i64 a3, .int .i64 a4, .int .i64 a5, .int .i64 a6, .bool a7] 33)).alloc (.cells #[.int .i64 b0, .int .i64 b1, .int .i64 b2, .int .i64 b3, .int .i64 b4, .int .i64 b5, .int .i64 b6, .bool b7] 33)).cell? ⟨w.heap.size + 1, 7, none⟩ = some (.bool b7))) := by simp [go_sem]
    have zU : ((w.alloc (.cells #[.int .i64 a0, .int .i64 a1, .int .i64 a2, .int .i64 a3, .int .i64 a4, .int .i64 a5, .int .i64 a6, .bool a7] 33)).alloc (.cells #[.int .i64 b0, .int .i64 b1, .int .i64 b2, .int .i64 b3, .int .i64 b4, .int .i64 b5, .int .i64 b6, .bool b7] 33)).heap.size = w.heap.size + 2 := by simp
    generalize (w.alloc (.cells #[.int .i64 a0, .int .i64 a1, .int .i64 a2, .int .i64 a3, .int .i64 a4, .int .i64 a5, .int .i64 a6, .bool a7] 33)).alloc (.cells #[.int .i64 b0, .int .i64 b1, .int .i64 b2, .int .i64 b3, .int .i64 b4, .int .i64 b5, .int .i64 b6, .bool b7] 33) = U at *
    have hK : ∀ W, Below U.heap.size U W → (fun W => ((W.cell? ⟨w.heap.size, 0, none⟩ = some (.int .i64 a0) ∧ W.cell? ⟨w.heap.size, 1, none⟩ = some (.int .i64 a1) ∧ W.cell? ⟨w.heap.size, 2, none⟩ = some (.int .i64 a2) ∧ W.cell? ⟨w.heap.size, 3, none⟩ = some (.int .i64 a3) ∧ W.cell? ⟨w.heap.size, 4, none⟩ = some (.int .i64 a4) ∧ W.cell? ⟨w.heap.size, 5, none⟩ = some (.int .i64 a5) ∧ W.cell? ⟨w.heap.size, 6, none⟩ = some (.int .i64 a6) ∧ W.cell? ⟨w.heap.size, 7, none⟩ = some (.bool a7)) ∧ (W.cell? ⟨(w.heap.size + 1), 0, none⟩ = some (.int .i64 b0) ∧ W.cell? ⟨(w.heap.size + 1), 1, none⟩ = some (.int .i64 b1) ∧ W.cell? ⟨(w.heap.size + 1), 2, none⟩ = some (.int .i64 b2) ∧ W.cell? ⟨(w.heap.size + 1), 3, none⟩ = some (.int .i64 b3) ∧ W.cell? ⟨(w.heap.size + 1), 4, none⟩ = some (.int .i64 b4) ∧ W.cell? ⟨(w.heap.size + 1), 5, none⟩ = some (.int .i64 b5) ∧ W.cell? ⟨(w.heap.size + 1), 6, none⟩ = some (.int .i64 b6) ∧ W.cell? ⟨(w.heap.size + 1), 7, none⟩ = some (.bool b7))) ∧ Below U.heap.size U W) W := fun W hW => ⟨by simp only [hW.cell (p := ⟨w.heap.size, _, none⟩) (show w.heap.size < U.heap.size by omega), hW.cell (p := ⟨w.heap.size + 1, _, none⟩) (show w.heap.size + 1 < U.heap.size by omega)]; exact kU, hW⟩
    have HK := Lib.hid hK
    have hS : ∀ W W', (fun W => ((W.cell? ⟨w.heap.size, 0, none⟩ = some (.int .i64 a0) ∧ W.cell? ⟨w.heap.size, 1, none⟩ = some (.int .i64 a1) ∧ W.cell? ⟨w.heap.size, 2, none⟩ = some (.int .i64 a2) ∧ W.cell? ⟨w.heap.size, 3, none⟩ = some (.int .i64 a3) ∧ W.cell? ⟨w.heap.size, 4, none⟩ = some (.int .i64 a4) ∧ W.cell? ⟨w.heap.size, 5, none⟩ = some (.int .i64 a5) ∧ W.cell? ⟨w.heap.size, 6, none⟩ = some (.int .i64 a6) ∧ W.cell? ⟨w.heap.size, 7, none⟩ = some (.bool a7)) ∧ (W.cell? ⟨(w.heap.size + 1), 0, none⟩ = some (.int .i64 b0) ∧ W.cell? ⟨(w.heap.size + 1), 1, none⟩ = some (.int .i64 b1) ∧ W.cell? ⟨(w.heap.size + 1), 2, none⟩ = some (.int .i64 b2) ∧ W.cell? ⟨(w.heap.size + 1), 3, none⟩ = some (.int .i64 b3) ∧ W.cell? ⟨(w.heap.size + 1), 4, none⟩ = some (.int .i64 b4) ∧ W.cell? ⟨(w.heap.size + 1), 5, none⟩ = some (.int .i64 b5) ∧ W.cell? ⟨(w.heap.size + 1), 6, none⟩ = some (.int .i64 b6) ∧ W.cell? ⟨(w.heap.size + 1), 7, none⟩ = some (.bool b7))) ∧ Below U.heap.size U W) W → Below W.heap.size W W' → Below U.heap.size U W' := fun W W' hW h => hW.2.trans (h.mono hW.2.size)
    have HS := Lib.hid hS
    clear hK hS kU
    first
      | (go_region_held3 (fun W => ((W.cell? ⟨w.heap.size, 0, none⟩ = some (.int .i64 a0) ∧ W.cell? ⟨w.heap.size, 1, none⟩ = some (.int .i64 a1) ∧ W.cell? ⟨w.heap.size, 2, none⟩ = some (.int .i64 a2) ∧ W.cell? ⟨w.heap.size, 3, none⟩ = some (.int .i64 a3) ∧ W.cell? ⟨w.heap.size, 4, none⟩ = some (.int .i64 a4) ∧ W.cell? ⟨w.heap.size, 5, none⟩ = some (.int .i64 a5) ∧ W.cell? ⟨w.heap.size, 6, none⟩ = some (.int .i64 a6) ∧ W.cell? ⟨w.heap.size, 7, none⟩ = some (.bool a7)) ∧ (W.cell? ⟨(w.heap.size + 1), 0, none⟩ = some (.int .i64 b0) ∧ W.cell? ⟨(w.heap.size + 1), 1, none⟩ = some (.int .i64 b1) ∧ W.cell? ⟨(w.heap.size + 1), 2, none⟩ = some (.int .i64 b2) ∧ W.cell? ⟨(w.heap.size + 1), 3, none⟩ = some (.int .i64 b3) ∧ W.cell? ⟨(w.heap.size + 1), 4, none⟩ = some (.int .i64 b4) ∧ W.cell? ⟨(w.heap.size + 1), 5, none⟩ = some (.int .i64 b5) ∧ W.cell? ⟨(w.heap.size + 1), 6, none⟩ = some (.int .i64 b6) ∧ W.cell? ⟨(w.heap.size + 1), 7, none⟩ = some (.bool b7))) ∧ Below U.heap.size U W)
          (first | exact HK.out _ (Below.refl _ _).drew | exact HK.out _ (by assumption))
          (first
            | (go_at_call 47; with_reducible refine (HA _).out.mono ?_; rintro e w1 ⟨rfl, h1⟩; have q1 := HS.out _ _ (by assumption) h1; clear h1)
            | (go_at_call 47; with_reducible refine (HB _).out.mono ?_; rintro e w1 ⟨rfl, h1⟩; have q1 := HS.out _ _ (by assumption) h1; clear h1)
            | (go_at_call 96; with_reducible refine (HNA _).out.mono ?_; rintro e w1 ⟨rfl, h1⟩; have q1 := HS.out _ _ (by assumption) h1; clear h1)
            | (go_at_call 96; with_reducible refine (HNB _).out.mono ?_; rintro e w1 ⟨rfl, h1⟩; have q1 := HS.out _ _ (by assumption) h1; clear h1)))
      | fail
    all_goals
      go_wp2
      go_ret
      exact ⟨by rw [HO.out]; rfl, bU0.trans ((by assumption : Below U.heap.size U _).mono (by omega))⟩
end Go.Proofs.Ytpolpkheaibonaa
/- What a Claim becomes that hears another one's: the model's and the program's. Nothing that was there is written. -/
namespace Go.Proofs.Ytpolpkheaibonaa
open Go.RowKit
set_option linter.unusedVariables false

/-- Two names are one. -/
def sameN (n m : Nm) : Bool := decide (n.u = m.u ∧ n.m = m.m ∧ n.i = m.i ∧ n.f = m.f ∧ n.c = m.c ∧ n.s = m.s ∧ n.y = m.y ∧ n.a = m.a)
theorem sameN_comm (n m : Nm) : sameN n m = sameN m n := by
  unfold sameN
  refine decide_eq_decide.2 ⟨?_, ?_⟩ <;> (rintro ⟨h0, h1, h2, h3, h4, h5, h6, h7⟩; exact ⟨h0.symm, h1.symm, h2.symm, h3.symm, h4.symm, h5.symm, h6.symm, h7.symm⟩)
theorem sameN_eq {n m : Nm} : sameN n m = true ↔ n = m := by
  unfold sameN
  rw [decide_eq_true_eq]
  obtain ⟨n0, n1, n2, n3, n4, n5, n6, n7⟩ := n
  obtain ⟨m0, m1, m2, m3, m4, m5, m6, m7⟩ := m
  dsimp only
  exact ⟨fun ⟨h0, h1, h2, h3, h4, h5, h6, h7⟩ => by rw [h0, h1, h2, h3, h4, h5, h6, h7], fun h => by cases h; exact ⟨rfl, rfl, rfl, rfl, rfl, rfl, rfl, rfl⟩⟩
/-- What is answered of what is heard. -/
def hearO (c : Cl) (s : Int) (m : Nm) : Cl × Bool × Int := if clB c = true ∧ okB m = true ∧ inB 0 255 s = true then ((hearC c s m (sameN c.n m)).1, (hearC c s m (sameN c.n m)).2, 0) else (zeroCl, false, 1)
section
variable {n : Nm} {ad st lf : Int} {l : List Int} {s : Int} {m : Nm}
theorem hearC_same : hearC ⟨n, ad, st, lf, l⟩ s m true = (⟨n, ad, st, lf, l⟩, false) := rfl
theorem hearC_off (h : s ≠ ad ∨ st = 3) : hearC ⟨n, ad, st, lf, l⟩ s m false = (⟨n, ad, st, lf, takenI l s⟩, false) := by
  unfold hearC takenI
  rw [if_neg (by simp)]
  dsimp only
  rw [if_pos h]
theorem hearC_less (h : s = ad) (h3 : st ≠ 3) (hl : nmN n < nmN m) : hearC ⟨n, ad, st, lf, l⟩ s m false = (⟨n, ad, st, lf, takenI l s⟩, true) := by
  unfold hearC takenI
  rw [if_neg (by simp)]
  dsimp only
  rw [if_neg (by simp [h, h3]), if_pos hl]
theorem hearC_lost (h : s = ad) (h3 : st ≠ 3) (hl : ¬ nmN n < nmN m) (hq : n.a = false ∨ 251 < (takenI l s).length) : hearC ⟨n, ad, st, lf, l⟩ s m false = (⟨n, 254, 3, 0, takenI l s⟩, true) := by
  unfold takenI at hq
  unfold hearC takenI
  rw [if_neg (by simp)]
  dsimp only
  rw [if_neg (by simp [h, h3]), if_neg hl, if_pos hq]
theorem hearC_next (h : s = ad) (h3 : st ≠ 3) (hl : ¬ nmN n < nmN m) (hq : ¬ (n.a = false ∨ 251 < (takenI l s).length)) : hearC ⟨n, ad, st, lf, l⟩ s m false = (⟨n, nextI (takenI l s) ad, 1, 250, takenI l s⟩, true) := by
  unfold takenI at hq
  unfold hearC takenI
  rw [if_neg (by simp)]
  dsimp only
  rw [if_neg (by simp [h, h3]), if_neg hl, if_neg hq]
end
end Go.Proofs.Ytpolpkheaibonaa
/- Lists of Devices: whether one is right, who is there once one is heard, a tick later. -/
namespace Go.Proofs.Ytpolpkheaibonaa
open Go.RowKit
set_option linter.unusedVariables false

/-- A Device is right by itself. -/
def dvOkB (d : Dv) : Bool := okB d.n && (inB 0 251 d.ad && inB 0 600 d.g)
theorem dvOkB_of {d : Dv} (h : dvOkB d = true) : okB d.n = true ∧ (0 ≤ d.ad ∧ d.ad ≤ 251) ∧ (0 ≤ d.g ∧ d.g ≤ 600) := by
  unfold dvOkB at h
  simp only [Bool.and_eq_true] at h
  exact ⟨h.1, inB_of h.2.1, inB_of h.2.2⟩
/-- It may stand behind that one. -/
def behindB (a d : Dv) : Bool := nmLessB a.n d.n && !(a.ad == d.ad)
/-- It may stand in its place. -/
def dvsAt (l : List Dv) (i : Nat) : Bool := dvOkB (dvAt l i) && allR (fun k => behindB (dvAt l k) (dvAt l i)) i
def dvsB (l : List Dv) : Bool := decide (l.length ≤ 8) && allR (dvsAt l) l.length
theorem dvsB_of {l : List Dv} (k : dvsB l = true) : l.length ≤ 8 ∧ ∀ i, i < l.length → dvsAt l i = true := by
  unfold dvsB at k
  simp only [Bool.and_eq_true, decide_eq_true_eq] at k
  exact ⟨k.1, allR_of k.2⟩
theorem dvsB_long {l : List Dv} (k : 8 < l.length) : dvsB l = false := by
  unfold dvsB
  rw [decide_eq_false (by omega), Bool.false_and]
theorem dvsB_no {l : List Dv} {i : Nat} (hi : i < l.length) (k : dvsAt l i = false) : dvsB l = false := by
  unfold dvsB
  rw [allR_no hi k, Bool.and_false]
theorem dvsB_yes {l : List Dv} (h8 : l.length ≤ 8) (h : ∀ i, i < l.length → dvsAt l i = true) : dvsB l = true := by
  unfold dvsB
  rw [allR_yes h, decide_eq_true h8]
  rfl
theorem dvsAt_of {l : List Dv} {i : Nat} (h : dvsAt l i = true) : dvOkB (dvAt l i) = true ∧ ∀ k, k < i → behindB (dvAt l k) (dvAt l i) = true := by
  unfold dvsAt at h
  simp only [Bool.and_eq_true] at h
  exact ⟨h.1, allR_of h.2⟩
theorem dvsAt_mk {l : List Dv} {i : Nat} (h : dvOkB (dvAt l i) = true) (h2 : ∀ k, k < i → behindB (dvAt l k) (dvAt l i) = true) : dvsAt l i = true := by
  unfold dvsAt
  rw [h, allR_yes h2]
  rfl
theorem less_of {a b : Nm} (h : nmLessB a b = true) : nmN a < nmN b := by
  unfold nmLessB at h
  simp only [Bool.and_eq_true, decide_eq_true_eq] at h
  exact h.2.2
theorem less_mk {a b : Nm} (ha : okB a = true) (hb : okB b = true) (h : nmN a < nmN b) : nmLessB a b = true := by
  unfold nmLessB
  rw [ha, hb, decide_eq_true h]
  rfl
theorem behindB_of {a d : Dv} (h : behindB a d = true) : nmN a.n < nmN d.n ∧ a.ad ≠ d.ad := by
  unfold behindB at h
  simp only [Bool.and_eq_true, Bool.not_eq_true', beq_eq_false_iff_ne] at h
  exact ⟨less_of h.1, h.2⟩
/-- The model's way: the one ahead is less, and no address ahead is alike. -/
def spAt (l : List Dv) (i : Nat) : Bool := dvOkB (dvAt l i) && ((decide (i = 0) || nmLessB (dvAt l (i - 1)).n (dvAt l i).n) && allR (fun k => !((dvAt l k).ad == (dvAt l i).ad)) i)
theorem spAt_same {l : List Dv} {i : Nat} (h : ∀ k, k < i → dvsAt l k = true) : spAt l i = dvsAt l i := by
  cases hq : dvsAt l i with
  | true =>
    obtain ⟨h1, h2⟩ := dvsAt_of hq
    unfold spAt
    rw [h1, allR_yes (fun k hk => by
      have := (behindB_of (h2 k hk)).2
      simpa using this)]
    rcases Nat.eq_zero_or_pos i with rfl | hi
    · rfl
    · have := h2 (i - 1) (by omega)
      unfold behindB at this
      rw [Bool.and_eq_true] at this
      rw [this.1]
      simp
  | false =>
    cases hs : spAt l i with
    | false => rfl
    | true =>
      unfold spAt at hs
      simp only [Bool.and_eq_true, Bool.or_eq_true, decide_eq_true_eq] at hs
      have hc : dvsAt l i = true := dvsAt_mk hs.1 (fun k hk => by
        have ha := allR_of hs.2.2 k hk
        have hl : nmLessB (dvAt l (i - 1)).n (dvAt l i).n = true := by
          rcases hs.2.1 with h0 | h0
          · omega
          · exact h0
        have hlt : nmN (dvAt l k).n < nmN (dvAt l i).n := by
          rcases Nat.eq_or_lt_of_le (Nat.le_sub_one_of_lt hk) with rfl | hk2
          · exact less_of hl
          · have h3 := (behindB_of ((dvsAt_of (h (i - 1) (by omega))).2 k hk2)).1
            have := less_of hl
            omega
        unfold behindB
        rw [ha, less_mk (dvOkB_of (dvsAt_of (h k hk)).1).1 (dvOkB_of hs.1).1 hlt]
        rfl)
      rw [hc] at hq
      cases hq
/-- Who stays when one is heard. -/
def staysB (ad : Int) (n : Nm) (d : Dv) : Bool := !(sameN d.n n) && !(d.ad == ad)
def keptD (l : List Dv) (ad : Int) (n : Nm) : List Dv := l.filter (staysB ad n)
/-- How many stand ahead of n. -/
def aheadD (l : List Dv) (n : Nm) : Nat := (l.takeWhile fun d => nmLessB d.n n).length
def hearD (l : List Dv) (ad : Int) (n : Nm) : List Dv :=
  if ad ≤ 251 ∧ (keptD l ad n).length < 8 then (keptD l ad n).take (aheadD (keptD l ad n) n) ++ ⟨n, ad, 0⟩ :: (keptD l ad n).drop (aheadD (keptD l ad n) n) else keptD l ad n
def hearV (l : List Dv) (ad : Int) (n : Nm) : List Dv :=
  if 400 < l.length then [] else if (dvsB l && (okB n && inB 0 255 ad)) = true then hearD l ad n else l
def tickD (l : List Dv) : List Dv := (l.filter fun d => decide (d.g < 600)).map fun d => ⟨d.n, d.ad, d.g + 1⟩
def tickDV (l : List Dv) : List Dv := if dvsB l = true then tickD l else []
def addrD (l : List Dv) (n : Nm) : Int := match l.find? (fun d => sameN d.n n) with
  | some d => d.ad
  | none => -1
def addrV (l : List Dv) (n : Nm) : Int := if dvsB l = true then addrD l n else -1
end Go.Proofs.Ytpolpkheaibonaa
/- Whether Devices are right: the program's and the model's. Nothing that was there is written. -/
namespace Go.Proofs.Ytpolpkheaibonaa
open Go.RowKit
set_option linter.unusedVariables false

theorem dvAt_take {l : List Dv} {i k : Nat} (h : k < i) : dvAt (l.take i) k = dvAt l k := by
  unfold dvAt
  rw [List.getElem?_take, if_pos h]
theorem allR_same {f g : Nat → Bool} {n : Nat} (h : ∀ j, j < n → f j = g j) : allR f n = allR g n := by
  unfold allR
  rw [Bool.eq_iff_iff]
  simp only [List.all_eq_true, List.mem_range]
  exact ⟨fun k j hj => by rw [← h j hj]; exact k j hj, fun k j hj => by rw [h j hj]; exact k j hj⟩
/-- The first eight cells are the Name's. -/
theorem dv_nm (n0 n1 n2 n3 n4 n5 n6 : Int) (n7 : Bool) (ad g : Int) (j : Nat) (v : Value) (h : ([.int .i64 n0, .int .i64 n1, .int .i64 n2, .int .i64 n3, .int .i64 n4, .int .i64 n5, .int .i64 n6, .bool n7] : List Value)[j]? = some v) : ([.int .i64 n0, .int .i64 n1, .int .i64 n2, .int .i64 n3, .int .i64 n4, .int .i64 n5, .int .i64 n6, .bool n7, .int .i64 ad, .int .i64 g] : List Value)[j]? = some v := by
  rcases j with _ | _ | _ | _ | _ | _ | _ | _ | j
  all_goals first | exact h | simp at h
set_option maxRecDepth 100000 in
set_option maxHeartbeats 8000000 in
theorem deviceRight_any (x : Dv) (w : World) :
    Calls Try.prog 92 #[.agg (dvL x).toArray] w fun e w' => e = .returned (.bool (dvOkB x)) ∧ Below w.heap.size w w' := by
  obtain ⟨⟨n0, n1, n2, n3, n4, n5, n6, n7⟩, ad, g⟩ := x
  have HN := fun W => Lib.hid (implNameOk_any ⟨n0, n1, n2, n3, n4, n5, n6, n7⟩ W)
  obtain ⟨V, hV⟩ : ∃ V, dvOkB ⟨⟨n0, n1, n2, n3, n4, n5, n6, n7⟩, ad, g⟩ = V := ⟨_, rfl⟩
  have HV := Lib.hid (show (okB ⟨n0, n1, n2, n3, n4, n5, n6, n7⟩ && (inB 0 251 ad && inB 0 600 g)) = V from hV)
  rw [hV]
  unfold dvL
  unfold nmV at HN
  dsimp only at *
  generalize okB ⟨n0, n1, n2, n3, n4, n5, n6, n7⟩ = O at *
  clear hV
  go_enter Try.func92, Try.ntmps92
  go_wp2_with (first
    | ((with_reducible refine @id (wpList _ _ _ (Oper.mk _ (Op.box 78 (.tmp 0)) _ _ _ _ :: _) _ _) ?_); refine wpList_box_h rfl 78 (.tmp 0) rfl #[.int .i64 n0, .int .i64 n1, .int .i64 n2, .int .i64 n3, .int .i64 n4, .int .i64 n5, .int .i64 n6, .bool n7, .int .i64 ad, .int .i64 g] rfl ?_; intro w1 R1 e1 g1 b1; have HL1 := Lib.hid (show Lg w w1 [(R1, #[.int .i64 n0, .int .i64 n1, .int .i64 n2, .int .i64 n3, .int .i64 n4, .int .i64 n5, .int .i64 n6, .bool n7, .int .i64 ad, .int .i64 g], 78)] [] from (Lg.first w).box e1 g1 b1); clear g1 b1 e1)
    | ((with_reducible refine @id (wpList _ _ _ (Oper.mk _ (Op.load 33 (.tmp 3)) _ _ _ _ :: _) _ _) ?_); refine wpList_load_at rfl 33 (.tmp 3) rfl (R1) 0 rfl 78 #[.int .i64 n0, .int .i64 n1, .int .i64 n2, .int .i64 n3, .int .i64 n4, .int .i64 n5, .int .i64 n6, .bool n7, .int .i64 ad, .int .i64 g] (0, 0) (HL1.out.get (.head _)) [.int .i64 n0, .int .i64 n1, .int .i64 n2, .int .i64 n3, .int .i64 n4, .int .i64 n5, .int .i64 n6, .bool n7] rfl _ Try.underlying33 rfl (by kernel_rfl) ?_))
  refine ((HN _).out).mono ?_
  rintro e w2 ⟨rfl, h⟩
  have HL2 := Lib.hid (show Lg w w2 [(R1, #[.int .i64 n0, .int .i64 n1, .int .i64 n2, .int .i64 n3, .int .i64 n4, .int .i64 n5, .int .i64 n6, .bool n7, .int .i64 ad, .int .i64 g], 78)] [] from HL1.out.kept h)
  clear h
  rcases O with _ | _
  · skip
    go_wp2_with fail
    go_ret
    exact ⟨by rw [← HV.out]; rfl, HL2.out.below⟩
  go_wp2_with (first
    | ((with_reducible refine @id (wpList _ _ _ (Oper.mk _ (Op.load 2 (.tmp 7)) _ _ _ _ :: _) _ _) ?_); refine wpList_load_one (by kernel_rfl) 2 (.tmp 7) rfl (R1) 8 rfl 78 #[.int .i64 n0, .int .i64 n1, .int .i64 n2, .int .i64 n3, .int .i64 n4, .int .i64 n5, .int .i64 n6, .bool n7, .int .i64 ad, .int .i64 g] (0, 0) (HL2.out.get (.head _)) (.int .i64 ad) rfl _ Try.underlying2 rfl (by kernel_rfl) ?_))
  refine (from0_any ad 251 _).mono ?_
  rcases c1 : inB 0 251 ad
  · rintro e w' ⟨rfl, rfl⟩
    rw [c1] at HV
    go_wp2_with fail
    go_ret
    exact ⟨by rw [← HV.out]; rfl, HL2.out.below⟩
  rintro e w' ⟨rfl, rfl⟩
  go_wp2_with (first
    | ((with_reducible refine @id (wpList _ _ _ (Oper.mk _ (Op.load 2 (.tmp 12)) _ _ _ _ :: _) _ _) ?_); refine wpList_load_one (by kernel_rfl) 2 (.tmp 12) rfl (R1) 9 rfl 78 #[.int .i64 n0, .int .i64 n1, .int .i64 n2, .int .i64 n3, .int .i64 n4, .int .i64 n5, .int .i64 n6, .bool n7, .int .i64 ad, .int .i64 g] (0, 0) (HL2.out.get (.head _)) (.int .i64 g) rfl _ Try.underlying2 rfl (by kernel_rfl) ?_))
  refine (from0_any g 600 _).mono ?_
  rintro e w' ⟨rfl, rfl⟩
  rw [c1] at HV
  go_wp2_with fail
  go_ret
  exact ⟨by rw [← HV.out]; rfl, HL2.out.below⟩
set_option maxRecDepth 100000 in
set_option maxHeartbeats 8000000 in
theorem mayFollow_any (a : Option Addr) (cap : Nat) (l : List Dv) (x : Dv) (w : World) (h : RsIn dvL 10 w a l) (hlen : l.length ≤ maxLen) :
    Calls Try.prog 93 #[.slice a l.length cap, .agg (dvL x).toArray] w fun e w' => e = .returned (.bool (allR (fun k => behindB (dvAt l k) x) l.length)) ∧ Below w.heap.size w w' := by
  unfold maxLen at hlen
  obtain ⟨V, hV⟩ : ∃ V, allR (fun k => behindB (dvAt l k) x) l.length = V := ⟨_, rfl⟩
  have HNo := Lib.hid (fun k (hk : k < l.length) (h : behindB (dvAt l k) x = false) => hV.symm.trans (allR_no (f := fun k => behindB (dvAt l k) x) hk h))
  have HYes := Lib.hid (fun (h : ∀ k, k < l.length → behindB (dvAt l k) x = true) => hV.symm.trans (allR_yes h))
  rw [hV]
  have HI := Lib.hid h
  clear hV h
  obtain ⟨N, hN⟩ : ∃ N, l.length = N := ⟨_, rfl⟩
  have HN := Lib.hid hN
  rw [hN] at hlen HNo HYes ⊢
  clear hN
  obtain ⟨x', hx'⟩ : ∃ x', x = x' := ⟨_, rfl⟩
  have HX := Lib.hid hx'
  rw [hx']
  clear hx'
  obtain ⟨⟨n0, n1, n2, n3, n4, n5, n6, n7⟩, ad, g⟩ := x'
  unfold dvL
  dsimp only
  go_enter Try.func93, Try.ntmps93
  go_wp2_with (first
    | ((with_reducible refine @id (wpList _ _ _ (Oper.mk _ (Op.box 78 (.tmp 1)) _ _ _ _ :: _) _ _) ?_); refine wpList_box_h rfl 78 (.tmp 1) rfl #[.int .i64 n0, .int .i64 n1, .int .i64 n2, .int .i64 n3, .int .i64 n4, .int .i64 n5, .int .i64 n6, .bool n7, .int .i64 ad, .int .i64 g] rfl ?_; intro w1 R1 e1 g1 b1; have HL1 := Lib.hid (show Lg w w1 [(R1, #[.int .i64 n0, .int .i64 n1, .int .i64 n2, .int .i64 n3, .int .i64 n4, .int .i64 n5, .int .i64 n6, .bool n7, .int .i64 ad, .int .i64 g], 78)] [] from (Lg.first w).box e1 g1 b1); clear g1 b1 e1))
  have HRB := Lib.hid (HL1.out.get (.head _))
  have HB1 := Lib.hid HL1.out.below
  have HI1 := Lib.hid (HI.out.kept HB1.out)
  clear HL1 HI
  go_loopw [6, 9] (fun _ i wr => ∃ k : Nat, i = .int .i64 (k : Int) ∧ k ≤ N ∧ (∀ j, j < k → behindB (dvAt l j) x = true) ∧ Below w1.heap.size w1 wr) (fun _ i _ => N - (intOf i).toNat)
  case atStart => exact ⟨0, rfl, by omega, fun j hj => absurd hj (by omega), Below.refl _ _⟩
  case round =>
    obtain ⟨k, rfl, hk, hall, hb⟩ := hrel
    have HA := Lib.hid hall
    have HR1 := Lib.hid ((hb.block R1 (Array.getElem?_eq_some_iff.1 HRB.out).1).trans HRB.out)
    clear hall
    by_cases hkn : k < N
    · have hkl : k < l.length := by have := HN.out; omega
      have hi1 : (0 : Int) ≤ (k : Int) := by omega
      have hi2 : (k : Int) < (N : Int) := by omega
      obtain ⟨B, o, ha, hlt, hcs⟩ := HI1.out.at (by omega)
      have HCs := Lib.hid (fun j v hv => (hb.cell (p := ⟨B, _, none⟩) hlt).trans (hcs k _ (dvAt_some hkl) j v hv))
      have HNok := Lib.hid (HNo.out k hkn)
      have HE := Lib.hid (show behindB (dvAt l k) x = (nmLessB (dvAt l k).n x.n && !((dvAt l k).ad == x.ad)) from rfl)
      have HLs := fun W => Lib.hid (implNameLess_any (dvAt l k).n x.n W)
      rw [HX.out] at HE HLs
      clear hcs
      subst ha
      generalize hy : dvAt l k = y at HCs HE HLs
      have HY := Lib.hid hy
      clear hy
      obtain ⟨⟨m0, m1, m2, m3, m4, m5, m6, m7⟩, yad, yg⟩ := y
      unfold dvL at HCs
      unfold nmV at HLs
      dsimp only at HCs HE HLs
      generalize nmLessB ⟨m0, m1, m2, m3, m4, m5, m6, m7⟩ ⟨n0, n1, n2, n3, n4, n5, n6, n7⟩ = Ls at *
      go_wp2_with (first
        | ((with_reducible refine @id (wpList _ _ _ (Oper.mk _ (Op.load 78 (.tmp 11)) _ _ _ _ :: _) _ _) ?_); refine wpList_load_cells rfl 78 (.tmp 11) rfl B (o + k * 10) rfl [.int .i64 m0, .int .i64 m1, .int .i64 m2, .int .i64 m3, .int .i64 m4, .int .i64 m5, .int .i64 m6, .bool m7, .int .i64 yad, .int .i64 yg] HCs.out _ Try.underlying78 rfl (by kernel_rfl) ?_)
        | ((with_reducible refine @id (wpList _ _ _ (Oper.mk _ (Op.alloc 78) _ _ _ _ :: _) _ _) ?_); refine wpList_alloc_h rfl 78 rfl (.agg #[.int .i64 0, .int .i64 0, .int .i64 0, .int .i64 0, .int .i64 0, .int .i64 0, .int .i64 0, .bool false, .int .i64 0, .int .i64 0]) (by kernel_rfl) #[.int .i64 0, .int .i64 0, .int .i64 0, .int .i64 0, .int .i64 0, .int .i64 0, .int .i64 0, .bool false, .int .i64 0, .int .i64 0] rfl ?_; intro v1 qR1 e1 g1 b1; have KL1 := Lib.hid (show Lg wr v1 [(qR1, #[.int .i64 0, .int .i64 0, .int .i64 0, .int .i64 0, .int .i64 0, .int .i64 0, .int .i64 0, .bool false, .int .i64 0, .int .i64 0], 78)] [] from (Lg.first wr).box e1 g1 b1); clear g1 b1 e1)
        | ((with_reducible refine @id (wpList _ _ _ (Oper.mk _ (Op.store 78 (.tmp 6) (.tmp 12)) _ _ _ _ :: _) _ _) ?_); refine wpList_put_at rfl 78 (.tmp 6) (.tmp 12) rfl rfl (qR1) 0 rfl (.agg #[.int .i64 m0, .int .i64 m1, .int .i64 m2, .int .i64 m3, .int .i64 m4, .int .i64 m5, .int .i64 m6, .bool m7, .int .i64 yad, .int .i64 yg]) rfl #[.int .i64 m0, .int .i64 m1, .int .i64 m2, .int .i64 m3, .int .i64 m4, .int .i64 m5, .int .i64 m6, .bool m7, .int .i64 yad, .int .i64 yg] rfl 78 #[.int .i64 0, .int .i64 0, .int .i64 0, .int .i64 0, .int .i64 0, .int .i64 0, .int .i64 0, .bool false, .int .i64 0, .int .i64 0] #[.int .i64 m0, .int .i64 m1, .int .i64 m2, .int .i64 m3, .int .i64 m4, .int .i64 m5, .int .i64 m6, .bool m7, .int .i64 yad, .int .i64 yg] (KL1.out.get (.head _)) (by kernel_rfl) (by kernel_rfl) (by kernel_rfl) (by kernel_rfl) ?_; intro v2 g2 o2; have KL2 := Lib.hid (show Lg wr v2 [(qR1, #[.int .i64 m0, .int .i64 m1, .int .i64 m2, .int .i64 m3, .int .i64 m4, .int .i64 m5, .int .i64 m6, .bool m7, .int .i64 yad, .int .i64 yg], 78)] [] from KL1.out.put 0 rfl g2 o2 (fun _ h => nomatch h) (fun _ h => nomatch h) rfl); clear g2 o2; have hb2 := hb.trans (KL2.out.below.mono hb.size); have HRv := Lib.hid ((KL2.out.below.block R1 (Array.getElem?_eq_some_iff.1 HR1.out).1).trans HR1.out); have HXv := Lib.hid (KL2.out.get (.head _)))
        | ((with_reducible refine @id (wpList _ _ _ (Oper.mk _ (Op.load 33 (.tmp 13)) _ _ _ _ :: _) _ _) ?_); refine wpList_load_at rfl 33 (.tmp 13) rfl (qR1) 0 rfl 78 #[.int .i64 m0, .int .i64 m1, .int .i64 m2, .int .i64 m3, .int .i64 m4, .int .i64 m5, .int .i64 m6, .bool m7, .int .i64 yad, .int .i64 yg] (0, 0) HXv.out [.int .i64 m0, .int .i64 m1, .int .i64 m2, .int .i64 m3, .int .i64 m4, .int .i64 m5, .int .i64 m6, .bool m7] rfl _ Try.underlying33 rfl (by kernel_rfl) ?_)
        | ((with_reducible refine @id (wpList _ _ _ (Oper.mk _ (Op.load 33 (.tmp 15)) _ _ _ _ :: _) _ _) ?_); refine wpList_load_at rfl 33 (.tmp 15) rfl (R1) 0 rfl 78 #[.int .i64 n0, .int .i64 n1, .int .i64 n2, .int .i64 n3, .int .i64 n4, .int .i64 n5, .int .i64 n6, .bool n7, .int .i64 ad, .int .i64 g] (0, 0) HRv.out [.int .i64 n0, .int .i64 n1, .int .i64 n2, .int .i64 n3, .int .i64 n4, .int .i64 n5, .int .i64 n6, .bool n7] rfl _ Try.underlying33 rfl (by kernel_rfl) ?_))
      refine (HLs _).out.mono ?_
      rintro e v3 ⟨rfl, h3⟩
      have hb3 := hb2.trans (h3.mono hb2.size)
      have HR3 := Lib.hid ((h3.block R1 (Array.getElem?_eq_some_iff.1 HRv.out).1).trans HRv.out)
      have HX3 := Lib.hid ((h3.block qR1 (Array.getElem?_eq_some_iff.1 HXv.out).1).trans HXv.out)
      clear h3
      rcases Ls with _ | _
      · have hv := Lib.hid (HNok.out (by rw [HY.out, HX.out, HE.out]; rfl))
        go_wp2_with fail
        go_ret
        exact ⟨by rw [hv.out]; rfl, HB1.out.trans (hb3.mono HB1.out.size)⟩
      by_cases had : yad = ad
      · have hab : (yad == ad) = true := by simp [had]
        have hv := Lib.hid (HNok.out (by rw [HY.out, HX.out, HE.out, hab]; rfl))
        clear had
        go_wp2_with (first
          | ((with_reducible refine @id (wpList _ _ _ (Oper.mk _ (Op.load 2 (.tmp 20)) _ _ _ _ :: _) _ _) ?_); refine wpList_load_one (by kernel_rfl) 2 (.tmp 20) rfl qR1 8 rfl 78 #[.int .i64 m0, .int .i64 m1, .int .i64 m2, .int .i64 m3, .int .i64 m4, .int .i64 m5, .int .i64 m6, .bool m7, .int .i64 yad, .int .i64 yg] (0, 0) HX3.out (.int .i64 yad) rfl _ Try.underlying2 rfl (by kernel_rfl) ?_)
          | ((with_reducible refine @id (wpList _ _ _ (Oper.mk _ (Op.load 2 (.tmp 22)) _ _ _ _ :: _) _ _) ?_); refine wpList_load_one (by kernel_rfl) 2 (.tmp 22) rfl R1 8 rfl 78 #[.int .i64 n0, .int .i64 n1, .int .i64 n2, .int .i64 n3, .int .i64 n4, .int .i64 n5, .int .i64 n6, .bool n7, .int .i64 ad, .int .i64 g] (0, 0) HR3.out (.int .i64 ad) rfl _ Try.underlying2 rfl (by kernel_rfl) ?_))
        go_ret
        exact ⟨by rw [hv.out]; rfl, HB1.out.trans (hb3.mono HB1.out.size)⟩
      have hab : (yad == ad) = false := by simpa using had
      have HT := Lib.hid (show behindB (dvAt l k) x = true by rw [HY.out, HX.out, HE.out, hab]; rfl)
      clear had
      go_wp2_with (first
        | ((with_reducible refine @id (wpList _ _ _ (Oper.mk _ (Op.load 2 (.tmp 20)) _ _ _ _ :: _) _ _) ?_); refine wpList_load_one (by kernel_rfl) 2 (.tmp 20) rfl qR1 8 rfl 78 #[.int .i64 m0, .int .i64 m1, .int .i64 m2, .int .i64 m3, .int .i64 m4, .int .i64 m5, .int .i64 m6, .bool m7, .int .i64 yad, .int .i64 yg] (0, 0) HX3.out (.int .i64 yad) rfl _ Try.underlying2 rfl (by kernel_rfl) ?_)
        | ((with_reducible refine @id (wpList _ _ _ (Oper.mk _ (Op.load 2 (.tmp 22)) _ _ _ _ :: _) _ _) ?_); refine wpList_load_one (by kernel_rfl) 2 (.tmp 22) rfl R1 8 rfl 78 #[.int .i64 n0, .int .i64 n1, .int .i64 n2, .int .i64 n3, .int .i64 n4, .int .i64 n5, .int .i64 n6, .bool n7, .int .i64 ad, .int .i64 g] (0, 0) HR3.out (.int .i64 ad) rfl _ Try.underlying2 rfl (by kernel_rfl) ?_))
      go_roundw
      case rel => exact ⟨k + 1, by go_num, by omega, fun j hj => (Nat.lt_or_ge j k).elim (HA.out j) (fun g => (show j = k by omega) ▸ HT.out), hb3⟩
      case measure => simp [intOf]; omega
    · have hv := Lib.hid (HYes.out (fun j hj => HA.out j (by omega)))
      go_wp2_with fail
      go_ret
      exact ⟨by rw [hv.out]; rfl, HB1.out.trans (hb.mono HB1.out.size)⟩
set_option maxRecDepth 100000 in
set_option maxHeartbeats 8000000 in
theorem implDevicesRight_any (a : Option Addr) (cap : Nat) (l : List Dv) (w : World) (h : RsIn dvL 10 w a l) (hlen : l.length ≤ maxLen) (hcap : l.length ≤ cap) :
    Calls Try.prog 40 #[.slice a l.length cap] w fun e w' => e = .returned (.bool (dvsB l)) ∧ Below w.heap.size w w' := by
  have hlen' := hlen
  unfold maxLen at hlen
  obtain ⟨V, hV⟩ : ∃ V, dvsB l = V := ⟨_, rfl⟩
  have HVl := Lib.hid (fun k => hV.symm.trans (@dvsB_long l k))
  have HVi := Lib.hid (fun i hi k => hV.symm.trans (@dvsB_no l i hi k))
  have HVy := Lib.hid (fun k1 k2 => hV.symm.trans (@dvsB_yes l k1 k2))
  rw [hV]
  have HI := Lib.hid h
  have HMf := fun W x k (hW : RsIn dvL 10 W a l) (hk : k ≤ l.length) => Lib.hid (show Calls Try.prog 93 #[.slice a k cap, .agg (dvL x).toArray] W fun e w' => e = .returned (.bool (allR (fun j => behindB (dvAt l j) x) k)) ∧ Below W.heap.size W w' from by
    have := mayFollow_any a cap (l.take k) x W (hW.take k) (by rw [List.length_take]; omega)
    rw [List.length_take, Nat.min_eq_left hk] at this
    rwa [show allR (fun j => behindB (dvAt (l.take k) j) x) k = allR (fun j => behindB (dvAt l j) x) k from allR_same (fun j hj => by rw [dvAt_take hj])] at this)
  clear h hV hlen'
  obtain ⟨N, hN⟩ : ∃ N, l.length = N := ⟨_, rfl⟩
  have HN := Lib.hid hN
  rw [hN] at hlen hcap HMf ⊢
  clear hN
  by_cases g1 : 8 < N
  · have hd : decide (8 < (N : Int)) = true := decide_eq_true (by omega)
    have hv := Lib.hid (HVl.out (by have := HN.out; omega))
    go_enter Try.func40, Try.ntmps40
    go_wp2_with fail
    go_ret
    exact ⟨by rw [hv.out]; rfl, Below.refl _ _⟩
  have hd : decide (8 < (N : Int)) = false := decide_eq_false (by omega)
  go_enter Try.func40, Try.ntmps40
  go_wp2_with fail
  go_loopw [3, 4, 10] (fun _ _ i wr => ∃ k : Nat, i = .int .i64 (k : Int) ∧ k ≤ N ∧ (∀ j, j < k → dvsAt l j = true) ∧ Below w.heap.size w wr) (fun _ _ i _ => N - (intOf i).toNat)
  case atStart => exact ⟨0, rfl, by omega, fun j hj => absurd hj (by omega), Below.refl _ _⟩
  case round =>
    obtain ⟨k, rfl, hk, hall, hb⟩ := hrel
    have HA := Lib.hid hall
    clear hall
    by_cases hkn : k < N
    · have hkl : k < l.length := by have := HN.out; omega
      have hi1 : (0 : Int) ≤ (k : Int) := by omega
      have hi2 : (k : Int) < (N : Int) := by omega
      have hi3 : (k : Int) ≤ (cap : Int) := by omega
      obtain ⟨B, o, ha, hlt, hcs⟩ := HI.out.at (by omega)
      have HCs := Lib.hid (fun j v hv => (hb.cell (p := ⟨B, _, none⟩) hlt).trans (hcs k _ (dvAt_some hkl) j v hv))
      have HNo := Lib.hid (HVi.out k hkl)
      have HE := Lib.hid (show dvsAt l k = (dvOkB (dvAt l k) && allR (fun j => behindB (dvAt l j) (dvAt l k)) k) from rfl)
      have HDr := fun W => Lib.hid (deviceRight_any (dvAt l k) W)
      have HMk := fun W hW => Lib.hid ((HMf W (dvAt l k) k hW (by omega)).out)
      clear hcs HMf
      subst ha
      generalize dvOkB (dvAt l k) = O1 at *
      generalize allR (fun j => behindB (dvAt l j) (dvAt l k)) k = O2 at *
      generalize dvAt l k = y at HCs HDr HMk
      obtain ⟨⟨n0, n1, n2, n3, n4, n5, n6, n7⟩, ad, g⟩ := y
      unfold dvL at HCs HDr HMk
      dsimp only at HCs HDr HMk
      go_wp2_with (first
        | ((with_reducible refine @id (wpList _ _ _ (Oper.mk _ (Op.load 78 (.tmp 13)) _ _ _ _ :: _) _ _) ?_); refine wpList_load_cells rfl 78 (.tmp 13) rfl B (o + k * 10) rfl [.int .i64 n0, .int .i64 n1, .int .i64 n2, .int .i64 n3, .int .i64 n4, .int .i64 n5, .int .i64 n6, .bool n7, .int .i64 ad, .int .i64 g] HCs.out _ Try.underlying78 rfl (by kernel_rfl) ?_)
        | ((with_reducible refine @id (wpList _ _ _ (Oper.mk _ (Op.alloc 78) _ _ _ _ :: _) _ _) ?_); refine wpList_alloc_h rfl 78 rfl (.agg #[.int .i64 0, .int .i64 0, .int .i64 0, .int .i64 0, .int .i64 0, .int .i64 0, .int .i64 0, .bool false, .int .i64 0, .int .i64 0]) (by kernel_rfl) #[.int .i64 0, .int .i64 0, .int .i64 0, .int .i64 0, .int .i64 0, .int .i64 0, .int .i64 0, .bool false, .int .i64 0, .int .i64 0] rfl ?_; intro v1 qR1 e1 g1 b1; have KL1 := Lib.hid (show Lg wr v1 [(qR1, #[.int .i64 0, .int .i64 0, .int .i64 0, .int .i64 0, .int .i64 0, .int .i64 0, .int .i64 0, .bool false, .int .i64 0, .int .i64 0], 78)] [] from (Lg.first wr).box e1 g1 b1); clear g1 b1 e1)
        | ((with_reducible refine @id (wpList _ _ _ (Oper.mk _ (Op.store 78 (.tmp 4) (.tmp 14)) _ _ _ _ :: _) _ _) ?_); refine wpList_put_at rfl 78 (.tmp 4) (.tmp 14) rfl rfl (qR1) 0 rfl (.agg #[.int .i64 n0, .int .i64 n1, .int .i64 n2, .int .i64 n3, .int .i64 n4, .int .i64 n5, .int .i64 n6, .bool n7, .int .i64 ad, .int .i64 g]) rfl #[.int .i64 n0, .int .i64 n1, .int .i64 n2, .int .i64 n3, .int .i64 n4, .int .i64 n5, .int .i64 n6, .bool n7, .int .i64 ad, .int .i64 g] rfl 78 #[.int .i64 0, .int .i64 0, .int .i64 0, .int .i64 0, .int .i64 0, .int .i64 0, .int .i64 0, .bool false, .int .i64 0, .int .i64 0] #[.int .i64 n0, .int .i64 n1, .int .i64 n2, .int .i64 n3, .int .i64 n4, .int .i64 n5, .int .i64 n6, .bool n7, .int .i64 ad, .int .i64 g] (KL1.out.get (.head _)) (by kernel_rfl) (by kernel_rfl) (by kernel_rfl) (by kernel_rfl) ?_; intro v2 g2 o2; have KL2 := Lib.hid (show Lg wr v2 [(qR1, #[.int .i64 n0, .int .i64 n1, .int .i64 n2, .int .i64 n3, .int .i64 n4, .int .i64 n5, .int .i64 n6, .bool n7, .int .i64 ad, .int .i64 g], 78)] [] from KL1.out.put 0 rfl g2 o2 (fun _ h => nomatch h) (fun _ h => nomatch h) rfl); clear g2 o2; have hb2 := hb.trans (KL2.out.below.mono hb.size); have HXv := Lib.hid (KL2.out.get (.head _))))
      have HIv := Lib.hid (fun (W : World) (hW : Below v2.heap.size v2 W) => (HI.out.kept hb2).kept hW)
      rcases O1 with _ | _
      · have hv := Lib.hid (HNo.out (by rw [HE.out]; rfl))
        refine wp_region_quiet (C := fun W => Below v2.heap.size v2 W) (by kernel_rfl) (by kernel_rfl) (Below.refl _ _).drew ?_
        dsimp only
        try simp only [Act.put, List.setIfInBounds_toArray, List.set_cons_zero, List.set_cons_succ]
        go_big_quiet_want; refine ⟨.agg #[.int .i64 n0, .int .i64 n1, .int .i64 n2, .int .i64 n3, .int .i64 n4, .int .i64 n5, .int .i64 n6, .bool n7, .int .i64 ad, .int .i64 g], fun W hW => (quietLoadCells 78 (.tmp 4) rfl qR1 0 rfl [.int .i64 n0, .int .i64 n1, .int .i64 n2, .int .i64 n3, .int .i64 n4, .int .i64 n5, .int .i64 n6, .bool n7, .int .i64 ad, .int .i64 g] (rowAll HXv.out hW) _ Try.underlying78 rfl (by kernel_rfl)), ?_⟩; simp only [Act.put, List.setIfInBounds_toArray, List.set_cons_zero, List.set_cons_succ]; go_big_quiet_on
        go_big_quiet_want; go_big_quiet_op; refine ⟨_, fun W hW => quietCall hW (HDr W).out, ?_⟩; go_big_quiet_on
        go_big_quiet_want; go_big_quiet_op; first | go_big_quiet_on | (refine ⟨_, fun _ _ => rfl, ?_⟩; go_big_quiet_on)
        go_big_quiet_want; go_big_quiet_op; first | go_big_quiet_on | (refine ⟨_, fun _ _ => rfl, ?_⟩; go_big_quiet_on)
        first | go_big_quiet_skip | (go_big_quiet_want; go_big_quiet_op; first | go_big_quiet_on | (refine ⟨_, fun _ _ => rfl, ?_⟩; go_big_quiet_on))
        first | go_big_quiet_skip | (go_big_quiet_want; go_big_quiet_op; first | go_big_quiet_on | (refine ⟨_, fun _ _ => rfl, ?_⟩; go_big_quiet_on))
        first | go_big_quiet_skip | (go_big_quiet_want; go_big_quiet_op; first | go_big_quiet_on | (refine ⟨_, fun _ _ => rfl, ?_⟩; go_big_quiet_on))
        first | go_big_quiet_skip | (go_big_quiet_want; refine ⟨.agg #[.int .i64 n0, .int .i64 n1, .int .i64 n2, .int .i64 n3, .int .i64 n4, .int .i64 n5, .int .i64 n6, .bool n7, .int .i64 ad, .int .i64 g], fun W hW => (quietLoadCells 78 (.tmp 4) rfl qR1 0 rfl [.int .i64 n0, .int .i64 n1, .int .i64 n2, .int .i64 n3, .int .i64 n4, .int .i64 n5, .int .i64 n6, .bool n7, .int .i64 ad, .int .i64 g] (rowAll HXv.out hW) _ Try.underlying78 rfl (by kernel_rfl)), ?_⟩; simp only [Act.put, List.setIfInBounds_toArray, List.set_cons_zero, List.set_cons_succ]; go_big_quiet_on)
        first | go_big_quiet_skip | (go_big_quiet_want; go_big_quiet_op; refine ⟨_, fun W hW => quietCall hW (HMk W (HIv.out W hW)).out, ?_⟩; go_big_quiet_on)
        first | go_big_quiet_skip | (go_big_quiet_want; go_big_quiet_op; first | go_big_quiet_on | (refine ⟨_, fun _ _ => rfl, ?_⟩; go_big_quiet_on))
        go_big_quiet_want; go_big_quiet_op; first | go_big_quiet_on | (refine ⟨_, fun _ _ => rfl, ?_⟩; go_big_quiet_on)
        refine wpQuiet_nil ?_
        intro X hX
        go_wp2_with fail
        go_ret
        exact ⟨by rw [hv.out]; rfl, hb2.trans (hX.mono hb2.size)⟩
      rcases O2 with _ | _
      · have hv := Lib.hid (HNo.out (by rw [HE.out]; rfl))
        refine wp_region_quiet (C := fun W => Below v2.heap.size v2 W) (by kernel_rfl) (by kernel_rfl) (Below.refl _ _).drew ?_
        dsimp only
        try simp only [Act.put, List.setIfInBounds_toArray, List.set_cons_zero, List.set_cons_succ]
        go_big_quiet_want; refine ⟨.agg #[.int .i64 n0, .int .i64 n1, .int .i64 n2, .int .i64 n3, .int .i64 n4, .int .i64 n5, .int .i64 n6, .bool n7, .int .i64 ad, .int .i64 g], fun W hW => (quietLoadCells 78 (.tmp 4) rfl qR1 0 rfl [.int .i64 n0, .int .i64 n1, .int .i64 n2, .int .i64 n3, .int .i64 n4, .int .i64 n5, .int .i64 n6, .bool n7, .int .i64 ad, .int .i64 g] (rowAll HXv.out hW) _ Try.underlying78 rfl (by kernel_rfl)), ?_⟩; simp only [Act.put, List.setIfInBounds_toArray, List.set_cons_zero, List.set_cons_succ]; go_big_quiet_on
        go_big_quiet_want; go_big_quiet_op; refine ⟨_, fun W hW => quietCall hW (HDr W).out, ?_⟩; go_big_quiet_on
        go_big_quiet_want; go_big_quiet_op; first | go_big_quiet_on | (refine ⟨_, fun _ _ => rfl, ?_⟩; go_big_quiet_on)
        go_big_quiet_want; go_big_quiet_op; first | go_big_quiet_on | (refine ⟨_, fun _ _ => rfl, ?_⟩; go_big_quiet_on)
        first | go_big_quiet_skip | (go_big_quiet_want; go_big_quiet_op; first | go_big_quiet_on | (refine ⟨_, fun _ _ => rfl, ?_⟩; go_big_quiet_on))
        first | go_big_quiet_skip | (go_big_quiet_want; go_big_quiet_op; first | go_big_quiet_on | (refine ⟨_, fun _ _ => rfl, ?_⟩; go_big_quiet_on))
        first | go_big_quiet_skip | (go_big_quiet_want; go_big_quiet_op; first | go_big_quiet_on | (refine ⟨_, fun _ _ => rfl, ?_⟩; go_big_quiet_on))
        first | go_big_quiet_skip | (go_big_quiet_want; refine ⟨.agg #[.int .i64 n0, .int .i64 n1, .int .i64 n2, .int .i64 n3, .int .i64 n4, .int .i64 n5, .int .i64 n6, .bool n7, .int .i64 ad, .int .i64 g], fun W hW => (quietLoadCells 78 (.tmp 4) rfl qR1 0 rfl [.int .i64 n0, .int .i64 n1, .int .i64 n2, .int .i64 n3, .int .i64 n4, .int .i64 n5, .int .i64 n6, .bool n7, .int .i64 ad, .int .i64 g] (rowAll HXv.out hW) _ Try.underlying78 rfl (by kernel_rfl)), ?_⟩; simp only [Act.put, List.setIfInBounds_toArray, List.set_cons_zero, List.set_cons_succ]; go_big_quiet_on)
        first | go_big_quiet_skip | (go_big_quiet_want; go_big_quiet_op; refine ⟨_, fun W hW => quietCall hW (HMk W (HIv.out W hW)).out, ?_⟩; go_big_quiet_on)
        first | go_big_quiet_skip | (go_big_quiet_want; go_big_quiet_op; first | go_big_quiet_on | (refine ⟨_, fun _ _ => rfl, ?_⟩; go_big_quiet_on))
        go_big_quiet_want; go_big_quiet_op; first | go_big_quiet_on | (refine ⟨_, fun _ _ => rfl, ?_⟩; go_big_quiet_on)
        refine wpQuiet_nil ?_
        intro X hX
        go_wp2_with fail
        go_ret
        exact ⟨by rw [hv.out]; rfl, hb2.trans (hX.mono hb2.size)⟩
      have HT := Lib.hid (show dvsAt l k = true by rw [HE.out]; rfl)
      refine wp_region_quiet (C := fun W => Below v2.heap.size v2 W) (by kernel_rfl) (by kernel_rfl) (Below.refl _ _).drew ?_
      dsimp only
      try simp only [Act.put, List.setIfInBounds_toArray, List.set_cons_zero, List.set_cons_succ]
      go_big_quiet_want; refine ⟨.agg #[.int .i64 n0, .int .i64 n1, .int .i64 n2, .int .i64 n3, .int .i64 n4, .int .i64 n5, .int .i64 n6, .bool n7, .int .i64 ad, .int .i64 g], fun W hW => (quietLoadCells 78 (.tmp 4) rfl qR1 0 rfl [.int .i64 n0, .int .i64 n1, .int .i64 n2, .int .i64 n3, .int .i64 n4, .int .i64 n5, .int .i64 n6, .bool n7, .int .i64 ad, .int .i64 g] (rowAll HXv.out hW) _ Try.underlying78 rfl (by kernel_rfl)), ?_⟩; simp only [Act.put, List.setIfInBounds_toArray, List.set_cons_zero, List.set_cons_succ]; go_big_quiet_on
      go_big_quiet_want; go_big_quiet_op; refine ⟨_, fun W hW => quietCall hW (HDr W).out, ?_⟩; go_big_quiet_on
      go_big_quiet_want; go_big_quiet_op; first | go_big_quiet_on | (refine ⟨_, fun _ _ => rfl, ?_⟩; go_big_quiet_on)
      go_big_quiet_want; go_big_quiet_op; first | go_big_quiet_on | (refine ⟨_, fun _ _ => rfl, ?_⟩; go_big_quiet_on)
      first | go_big_quiet_skip | (go_big_quiet_want; go_big_quiet_op; first | go_big_quiet_on | (refine ⟨_, fun _ _ => rfl, ?_⟩; go_big_quiet_on))
      first | go_big_quiet_skip | (go_big_quiet_want; go_big_quiet_op; first | go_big_quiet_on | (refine ⟨_, fun _ _ => rfl, ?_⟩; go_big_quiet_on))
      first | go_big_quiet_skip | (go_big_quiet_want; go_big_quiet_op; first | go_big_quiet_on | (refine ⟨_, fun _ _ => rfl, ?_⟩; go_big_quiet_on))
      first | go_big_quiet_skip | (go_big_quiet_want; refine ⟨.agg #[.int .i64 n0, .int .i64 n1, .int .i64 n2, .int .i64 n3, .int .i64 n4, .int .i64 n5, .int .i64 n6, .bool n7, .int .i64 ad, .int .i64 g], fun W hW => (quietLoadCells 78 (.tmp 4) rfl qR1 0 rfl [.int .i64 n0, .int .i64 n1, .int .i64 n2, .int .i64 n3, .int .i64 n4, .int .i64 n5, .int .i64 n6, .bool n7, .int .i64 ad, .int .i64 g] (rowAll HXv.out hW) _ Try.underlying78 rfl (by kernel_rfl)), ?_⟩; simp only [Act.put, List.setIfInBounds_toArray, List.set_cons_zero, List.set_cons_succ]; go_big_quiet_on)
      first | go_big_quiet_skip | (go_big_quiet_want; go_big_quiet_op; refine ⟨_, fun W hW => quietCall hW (HMk W (HIv.out W hW)).out, ?_⟩; go_big_quiet_on)
      first | go_big_quiet_skip | (go_big_quiet_want; go_big_quiet_op; first | go_big_quiet_on | (refine ⟨_, fun _ _ => rfl, ?_⟩; go_big_quiet_on))
      go_big_quiet_want; go_big_quiet_op; first | go_big_quiet_on | (refine ⟨_, fun _ _ => rfl, ?_⟩; go_big_quiet_on)
      refine wpQuiet_nil ?_
      intro X hX
      go_wp2_with fail
      go_roundw
      case rel => exact ⟨k + 1, by go_num, by omega, fun j hj => (Nat.lt_or_ge j k).elim (HA.out j) (fun g => (show j = k by omega) ▸ HT.out), hb2.trans (hX.mono hb2.size)⟩
      case measure => simp [intOf]; omega
    · have hv := Lib.hid (HVy.out (by have := HN.out; omega) (fun i hi => HA.out i (by have := HN.out; omega)))
      go_wp2_with fail
      go_ret
      exact ⟨by rw [hv.out]; rfl, hb⟩
set_option maxRecDepth 100000 in
set_option maxHeartbeats 8000000 in
theorem specDevicesRight_any (a : Option Addr) (cap : Nat) (l : List Dv) (w : World) (h : RsIn dvL 10 w a l) (hlen : l.length ≤ maxLen) :
    Calls Try.prog 37 #[.slice a l.length cap] w fun e w' => e = .returned (.bool (dvsB l)) ∧ Below w.heap.size w w' := by
  unfold maxLen at hlen
  obtain ⟨V, hV⟩ : ∃ V, dvsB l = V := ⟨_, rfl⟩
  have HVl := Lib.hid (fun k => hV.symm.trans (@dvsB_long l k))
  have HVi := Lib.hid (fun i hi k => hV.symm.trans (@dvsB_no l i hi k))
  have HVy := Lib.hid (fun k1 k2 => hV.symm.trans (@dvsB_yes l k1 k2))
  rw [hV]
  have HI := Lib.hid h
  clear h hV
  obtain ⟨N, hN⟩ : ∃ N, l.length = N := ⟨_, rfl⟩
  have HN := Lib.hid hN
  rw [hN] at hlen ⊢
  clear hN
  by_cases g1 : 8 < N
  · have hd : decide (8 < (N : Int)) = true := decide_eq_true (by omega)
    have hv := Lib.hid (HVl.out (by have := HN.out; omega))
    go_enter Try.func37, Try.ntmps37
    go_wp2_with fail
    go_ret
    exact ⟨by rw [hv.out]; rfl, Below.refl _ _⟩
  have hd : decide (8 < (N : Int)) = false := decide_eq_false (by omega)
  go_enter Try.func37, Try.ntmps37
  go_wp2_with fail
  go_loopw [3, 4] (fun i _ wr => ∃ k : Nat, i = .int .i64 (k : Int) ∧ k ≤ N ∧ (∀ j, j < k → dvsAt l j = true) ∧ Below w.heap.size w wr) (fun i _ _ => N - (intOf i).toNat)
  case atStart => exact ⟨0, rfl, by omega, fun j hj => absurd hj (by omega), Below.refl _ _⟩
  case round =>
    obtain ⟨k, rfl, hk, hall, hb⟩ := hrel
    have HA := Lib.hid hall
    clear hall
    by_cases hkn : k < N
    · have hkl : k < l.length := by have := HN.out; omega
      have hi1 : (0 : Int) ≤ (k : Int) := by omega
      have hi2 : (k : Int) < (N : Int) := by omega
      obtain ⟨B, o, ha, hlt, hcs⟩ := HI.out.at (by omega)
      have lB : B < wr.heap.size := Nat.lt_of_lt_of_le hlt hb.size
      have HCw := Lib.hid hcs
      have HCs := Lib.hid (fun j v hv => (hb.cell (p := ⟨B, _, none⟩) hlt).trans (hcs k _ (dvAt_some hkl) j v hv))
      have HNo := Lib.hid (HVi.out k hkl)
      have HE := Lib.hid (show dvsAt l k = ((okB (dvAt l k).n && (inB 0 251 (dvAt l k).ad && inB 0 600 (dvAt l k).g)) && ((decide (k = 0) || nmLessB (dvAt l (k - 1)).n (dvAt l k).n) && allR (fun t => !((dvAt l t).ad == (dvAt l k).ad)) k)) from (spAt_same HA.out).symm.trans rfl)
      have HNk := fun W => Lib.hid (specNameOk_any (dvAt l k).n W)
      have HPo := Lib.hid (fun (p : 0 < k) => (dvOkB_of (dvsAt_of (HA.out (k - 1) (by omega))).1).1)
      clear hcs
      subst ha
      generalize hy : dvAt l k = y at HCs HE HNk
      have HY := Lib.hid hy
      clear hy
      obtain ⟨⟨n0, n1, n2, n3, n4, n5, n6, n7⟩, ad, g⟩ := y
      unfold dvL at HCs
      unfold nmV at HNk
      dsimp only at HCs HE HNk
      have HCn := Lib.hid (show ∀ (j : Nat) v, ([.int .i64 n0, .int .i64 n1, .int .i64 n2, .int .i64 n3, .int .i64 n4, .int .i64 n5, .int .i64 n6, .bool n7] : List Value)[j]? = some v → wr.cell? ⟨B, o + k * 10 + j, none⟩ = some v from fun j v hv => HCs.out j v (dv_nm n0 n1 n2 n3 n4 n5 n6 n7 ad g j v hv))
      have HCa := Lib.hid (show wr.cell? ⟨B, o + k * 10 + 8, none⟩ = some (.int .i64 ad) from HCs.out 8 _ rfl)
      have HCg := Lib.hid (show wr.cell? ⟨B, o + k * 10 + 9, none⟩ = some (.int .i64 g) from HCs.out 9 _ rfl)
      clear HCs
      go_wp2_with fail
      rcases c0 : okB ⟨n0, n1, n2, n3, n4, n5, n6, n7⟩ with _ | _
      · rw [c0] at HNk
        have hv := Lib.hid (HNo.out (by rw [HE.out, c0]; rfl))
        refine wp_region_quiet (C := fun W => Below wr.heap.size wr W) (by kernel_rfl) (by kernel_rfl) (Below.refl _ _).drew ?_
        dsimp only
        try simp only [Act.put, List.setIfInBounds_toArray, List.set_cons_zero, List.set_cons_succ]
        go_big_quiet_want; go_big_quiet_op; first | go_big_quiet_on | (refine ⟨_, fun _ _ => rfl, ?_⟩; go_big_quiet_on)
        go_big_quiet_want; go_big_quiet_op; first | go_big_quiet_on | (refine ⟨_, fun _ _ => rfl, ?_⟩; go_big_quiet_on)
        go_big_quiet_want; go_big_quiet_op; first | go_big_quiet_on | (refine ⟨_, fun _ _ => rfl, ?_⟩; go_big_quiet_on)
        go_big_quiet_want; go_big_quiet_op; first | go_big_quiet_on | (refine ⟨_, fun _ _ => rfl, ?_⟩; go_big_quiet_on)
        go_big_quiet_want; refine ⟨.agg #[.int .i64 n0, .int .i64 n1, .int .i64 n2, .int .i64 n3, .int .i64 n4, .int .i64 n5, .int .i64 n6, .bool n7], fun W hW => (quietLoadCells 33 (.tmp 17) rfl B (o + k * 10) rfl [.int .i64 n0, .int .i64 n1, .int .i64 n2, .int .i64 n3, .int .i64 n4, .int .i64 n5, .int .i64 n6, .bool n7] (fun j v hv => (hW.cell (p := ⟨B, o + k * 10 + j, none⟩) lB).trans (HCn.out j v hv)) _ Try.underlying33 rfl (by kernel_rfl)), ?_⟩; simp only [Act.put, List.setIfInBounds_toArray, List.set_cons_zero, List.set_cons_succ]; go_big_quiet_on
        go_big_quiet_want; go_big_quiet_op; refine ⟨_, fun W hW => quietCall hW (HNk W).out, ?_⟩; go_big_quiet_on
        go_big_quiet_want; go_big_quiet_op; first | go_big_quiet_on | (refine ⟨_, fun _ _ => rfl, ?_⟩; go_big_quiet_on)
        go_big_quiet_want; go_big_quiet_op; first | go_big_quiet_on | (refine ⟨_, fun _ _ => rfl, ?_⟩; go_big_quiet_on)
        first | go_big_quiet_skip | (go_big_quiet_want; go_big_quiet_op; first | go_big_quiet_on | (refine ⟨_, fun _ _ => rfl, ?_⟩; go_big_quiet_on))
        first | go_big_quiet_skip | (go_big_quiet_want; go_big_quiet_op; first | go_big_quiet_on | (refine ⟨_, fun _ _ => rfl, ?_⟩; go_big_quiet_on))
        first | go_big_quiet_skip | (go_big_quiet_want; go_big_quiet_op; first | go_big_quiet_on | (refine ⟨_, fun _ _ => rfl, ?_⟩; go_big_quiet_on))
        first | go_big_quiet_skip | (go_big_quiet_want; go_big_quiet_op; first | go_big_quiet_on | (refine ⟨_, fun _ _ => rfl, ?_⟩; go_big_quiet_on))
        first | go_big_quiet_skip | (go_big_quiet_want; refine ⟨.int .i64 ad, fun W hW => (quietLoadOne 2 (.tmp 25) rfl B (o + k * 10 + 8) rfl (.int .i64 ad) ((hW.cell (p := ⟨B, o + k * 10 + 8, none⟩) lB).trans HCa.out) _ Try.underlying2 rfl), ?_⟩; simp only [Act.put, List.setIfInBounds_toArray, List.set_cons_zero, List.set_cons_succ]; go_big_quiet_on)
        first | go_big_quiet_skip | (go_big_quiet_want; go_big_quiet_op; refine ⟨_, fun W hW => (by have := quietSame hW (l05Addr_any ad W); rw [c1] at this; exact this), ?_⟩; go_big_quiet_on)
        first | go_big_quiet_skip | (go_big_quiet_want; go_big_quiet_op; first | go_big_quiet_on | (refine ⟨_, fun _ _ => rfl, ?_⟩; go_big_quiet_on))
        go_big_quiet_want; go_big_quiet_op; first | go_big_quiet_on | (refine ⟨_, fun _ _ => rfl, ?_⟩; go_big_quiet_on)
        go_big_quiet_want; go_big_quiet_op; first | go_big_quiet_on | (refine ⟨_, fun _ _ => rfl, ?_⟩; go_big_quiet_on)
        first | go_big_quiet_skip | (go_big_quiet_want; go_big_quiet_op; first | go_big_quiet_on | (refine ⟨_, fun _ _ => rfl, ?_⟩; go_big_quiet_on))
        first | go_big_quiet_skip | (go_big_quiet_want; go_big_quiet_op; first | go_big_quiet_on | (refine ⟨_, fun _ _ => rfl, ?_⟩; go_big_quiet_on))
        first | go_big_quiet_skip | (go_big_quiet_want; go_big_quiet_op; first | go_big_quiet_on | (refine ⟨_, fun _ _ => rfl, ?_⟩; go_big_quiet_on))
        first | go_big_quiet_skip | (go_big_quiet_want; go_big_quiet_op; first | go_big_quiet_on | (refine ⟨_, fun _ _ => rfl, ?_⟩; go_big_quiet_on))
        first | go_big_quiet_skip | (go_big_quiet_want; refine ⟨.int .i64 g, fun W hW => (quietLoadOne 2 (.tmp 34) rfl B (o + k * 10 + 9) rfl (.int .i64 g) ((hW.cell (p := ⟨B, o + k * 10 + 9, none⟩) lB).trans HCg.out) _ Try.underlying2 rfl), ?_⟩; simp only [Act.put, List.setIfInBounds_toArray, List.set_cons_zero, List.set_cons_succ]; go_big_quiet_on)
        first | go_big_quiet_skip | (go_big_quiet_want; go_big_quiet_op; refine ⟨_, fun W hW => (by have := quietSame hW (l02Is_any g 0 600 W); rw [c2] at this; exact this), ?_⟩; go_big_quiet_on)
        first | go_big_quiet_skip | (go_big_quiet_want; go_big_quiet_op; first | go_big_quiet_on | (refine ⟨_, fun _ _ => rfl, ?_⟩; go_big_quiet_on))
        go_big_quiet_want; go_big_quiet_op; first | go_big_quiet_on | (refine ⟨_, fun _ _ => rfl, ?_⟩; go_big_quiet_on)
        go_big_quiet_want; go_big_quiet_op; first | go_big_quiet_on | (refine ⟨_, fun _ _ => rfl, ?_⟩; go_big_quiet_on)
        first | go_big_quiet_skip | (go_big_quiet_want; go_big_quiet_op; first | go_big_quiet_on | (refine ⟨_, fun _ _ => rfl, ?_⟩; go_big_quiet_on))
        first | go_big_quiet_skip | (go_big_quiet_want; go_big_quiet_op; first | go_big_quiet_on | (refine ⟨_, fun _ _ => rfl, ?_⟩; go_big_quiet_on))
        first | go_big_quiet_skip | (go_big_quiet_want; go_big_quiet_op; first | go_big_quiet_on | (refine ⟨_, fun _ _ => rfl, ?_⟩; go_big_quiet_on))
        first | go_big_quiet_skip | (go_big_quiet_want; go_big_quiet_op; first | go_big_quiet_on | (refine ⟨_, fun _ _ => rfl, ?_⟩; go_big_quiet_on))
        first | go_big_quiet_skip | (go_big_quiet_want; go_big_quiet_op; first | go_big_quiet_on | (refine ⟨_, fun _ _ => rfl, ?_⟩; go_big_quiet_on))
        first | go_big_quiet_skip | (go_big_quiet_want; go_big_quiet_op; first | go_big_quiet_on | (refine ⟨_, fun _ _ => rfl, ?_⟩; go_big_quiet_on))
        first | go_big_quiet_skip | (go_big_quiet_want; go_big_quiet_op; first | go_big_quiet_on | (refine ⟨_, fun _ _ => rfl, ?_⟩; go_big_quiet_on))
        first | go_big_quiet_skip | (go_big_quiet_want; go_big_quiet_op; first | go_big_quiet_on | (refine ⟨_, fun _ _ => rfl, ?_⟩; go_big_quiet_on))
        first | go_big_quiet_skip | (go_big_quiet_want; refine ⟨.agg #[.int .i64 m0, .int .i64 m1, .int .i64 m2, .int .i64 m3, .int .i64 m4, .int .i64 m5, .int .i64 m6, .bool m7], fun W hW => (quietLoadCells 33 (.tmp 47) rfl B (o + q * 10) rfl [.int .i64 m0, .int .i64 m1, .int .i64 m2, .int .i64 m3, .int .i64 m4, .int .i64 m5, .int .i64 m6, .bool m7] (fun j v hv => (hW.cell (p := ⟨B, o + q * 10 + j, none⟩) lB).trans (HCm.out j v hv)) _ Try.underlying33 rfl (by kernel_rfl)), ?_⟩; simp only [Act.put, List.setIfInBounds_toArray, List.set_cons_zero, List.set_cons_succ]; go_big_quiet_on)
        first | go_big_quiet_skip | (go_big_quiet_want; go_big_quiet_op; first | go_big_quiet_on | (refine ⟨_, fun _ _ => rfl, ?_⟩; go_big_quiet_on))
        first | go_big_quiet_skip | (go_big_quiet_want; go_big_quiet_op; first | go_big_quiet_on | (refine ⟨_, fun _ _ => rfl, ?_⟩; go_big_quiet_on))
        first | go_big_quiet_skip | (go_big_quiet_want; go_big_quiet_op; first | go_big_quiet_on | (refine ⟨_, fun _ _ => rfl, ?_⟩; go_big_quiet_on))
        first | go_big_quiet_skip | (go_big_quiet_want; go_big_quiet_op; first | go_big_quiet_on | (refine ⟨_, fun _ _ => rfl, ?_⟩; go_big_quiet_on))
        first | go_big_quiet_skip | (go_big_quiet_want; refine ⟨.agg #[.int .i64 n0, .int .i64 n1, .int .i64 n2, .int .i64 n3, .int .i64 n4, .int .i64 n5, .int .i64 n6, .bool n7], fun W hW => (quietLoadCells 33 (.tmp 52) rfl B (o + k * 10) rfl [.int .i64 n0, .int .i64 n1, .int .i64 n2, .int .i64 n3, .int .i64 n4, .int .i64 n5, .int .i64 n6, .bool n7] (fun j v hv => (hW.cell (p := ⟨B, o + k * 10 + j, none⟩) lB).trans (HCn.out j v hv)) _ Try.underlying33 rfl (by kernel_rfl)), ?_⟩; simp only [Act.put, List.setIfInBounds_toArray, List.set_cons_zero, List.set_cons_succ]; go_big_quiet_on)
        first | go_big_quiet_skip | (go_big_quiet_want; go_big_quiet_op; refine ⟨_, fun W hW => quietCall hW (HLs W).out, ?_⟩; go_big_quiet_on)
        first | go_big_quiet_skip | (go_big_quiet_want; go_big_quiet_op; first | go_big_quiet_on | (refine ⟨_, fun _ _ => rfl, ?_⟩; go_big_quiet_on))
        first | go_big_quiet_skip | (go_big_quiet_want; go_big_quiet_op; first | go_big_quiet_on | (refine ⟨_, fun _ _ => rfl, ?_⟩; go_big_quiet_on))
        go_big_quiet_want; go_big_quiet_op; first | go_big_quiet_on | (refine ⟨_, fun _ _ => rfl, ?_⟩; go_big_quiet_on)
        refine wpQuiet_nil ?_
        intro wx hx
        go_wp2_with fail
        go_ret
        exact ⟨by rw [hv.out]; rfl, hb.trans (hx.mono hb.size)⟩
      rw [c0] at HNk
      rcases c1 : inB 0 251 ad with _ | _
      · have hv := Lib.hid (HNo.out (by rw [HE.out, c0, c1]; rfl))
        refine wp_region_quiet (C := fun W => Below wr.heap.size wr W) (by kernel_rfl) (by kernel_rfl) (Below.refl _ _).drew ?_
        dsimp only
        try simp only [Act.put, List.setIfInBounds_toArray, List.set_cons_zero, List.set_cons_succ]
        go_big_quiet_want; go_big_quiet_op; first | go_big_quiet_on | (refine ⟨_, fun _ _ => rfl, ?_⟩; go_big_quiet_on)
        go_big_quiet_want; go_big_quiet_op; first | go_big_quiet_on | (refine ⟨_, fun _ _ => rfl, ?_⟩; go_big_quiet_on)
        go_big_quiet_want; go_big_quiet_op; first | go_big_quiet_on | (refine ⟨_, fun _ _ => rfl, ?_⟩; go_big_quiet_on)
        go_big_quiet_want; go_big_quiet_op; first | go_big_quiet_on | (refine ⟨_, fun _ _ => rfl, ?_⟩; go_big_quiet_on)
        go_big_quiet_want; refine ⟨.agg #[.int .i64 n0, .int .i64 n1, .int .i64 n2, .int .i64 n3, .int .i64 n4, .int .i64 n5, .int .i64 n6, .bool n7], fun W hW => (quietLoadCells 33 (.tmp 17) rfl B (o + k * 10) rfl [.int .i64 n0, .int .i64 n1, .int .i64 n2, .int .i64 n3, .int .i64 n4, .int .i64 n5, .int .i64 n6, .bool n7] (fun j v hv => (hW.cell (p := ⟨B, o + k * 10 + j, none⟩) lB).trans (HCn.out j v hv)) _ Try.underlying33 rfl (by kernel_rfl)), ?_⟩; simp only [Act.put, List.setIfInBounds_toArray, List.set_cons_zero, List.set_cons_succ]; go_big_quiet_on
        go_big_quiet_want; go_big_quiet_op; refine ⟨_, fun W hW => quietCall hW (HNk W).out, ?_⟩; go_big_quiet_on
        go_big_quiet_want; go_big_quiet_op; first | go_big_quiet_on | (refine ⟨_, fun _ _ => rfl, ?_⟩; go_big_quiet_on)
        go_big_quiet_want; go_big_quiet_op; first | go_big_quiet_on | (refine ⟨_, fun _ _ => rfl, ?_⟩; go_big_quiet_on)
        first | go_big_quiet_skip | (go_big_quiet_want; go_big_quiet_op; first | go_big_quiet_on | (refine ⟨_, fun _ _ => rfl, ?_⟩; go_big_quiet_on))
        first | go_big_quiet_skip | (go_big_quiet_want; go_big_quiet_op; first | go_big_quiet_on | (refine ⟨_, fun _ _ => rfl, ?_⟩; go_big_quiet_on))
        first | go_big_quiet_skip | (go_big_quiet_want; go_big_quiet_op; first | go_big_quiet_on | (refine ⟨_, fun _ _ => rfl, ?_⟩; go_big_quiet_on))
        first | go_big_quiet_skip | (go_big_quiet_want; go_big_quiet_op; first | go_big_quiet_on | (refine ⟨_, fun _ _ => rfl, ?_⟩; go_big_quiet_on))
        first | go_big_quiet_skip | (go_big_quiet_want; refine ⟨.int .i64 ad, fun W hW => (quietLoadOne 2 (.tmp 25) rfl B (o + k * 10 + 8) rfl (.int .i64 ad) ((hW.cell (p := ⟨B, o + k * 10 + 8, none⟩) lB).trans HCa.out) _ Try.underlying2 rfl), ?_⟩; simp only [Act.put, List.setIfInBounds_toArray, List.set_cons_zero, List.set_cons_succ]; go_big_quiet_on)
        first | go_big_quiet_skip | (go_big_quiet_want; go_big_quiet_op; refine ⟨_, fun W hW => (by have := quietSame hW (l05Addr_any ad W); rw [c1] at this; exact this), ?_⟩; go_big_quiet_on)
        first | go_big_quiet_skip | (go_big_quiet_want; go_big_quiet_op; first | go_big_quiet_on | (refine ⟨_, fun _ _ => rfl, ?_⟩; go_big_quiet_on))
        go_big_quiet_want; go_big_quiet_op; first | go_big_quiet_on | (refine ⟨_, fun _ _ => rfl, ?_⟩; go_big_quiet_on)
        go_big_quiet_want; go_big_quiet_op; first | go_big_quiet_on | (refine ⟨_, fun _ _ => rfl, ?_⟩; go_big_quiet_on)
        first | go_big_quiet_skip | (go_big_quiet_want; go_big_quiet_op; first | go_big_quiet_on | (refine ⟨_, fun _ _ => rfl, ?_⟩; go_big_quiet_on))
        first | go_big_quiet_skip | (go_big_quiet_want; go_big_quiet_op; first | go_big_quiet_on | (refine ⟨_, fun _ _ => rfl, ?_⟩; go_big_quiet_on))
        first | go_big_quiet_skip | (go_big_quiet_want; go_big_quiet_op; first | go_big_quiet_on | (refine ⟨_, fun _ _ => rfl, ?_⟩; go_big_quiet_on))
        first | go_big_quiet_skip | (go_big_quiet_want; go_big_quiet_op; first | go_big_quiet_on | (refine ⟨_, fun _ _ => rfl, ?_⟩; go_big_quiet_on))
        first | go_big_quiet_skip | (go_big_quiet_want; refine ⟨.int .i64 g, fun W hW => (quietLoadOne 2 (.tmp 34) rfl B (o + k * 10 + 9) rfl (.int .i64 g) ((hW.cell (p := ⟨B, o + k * 10 + 9, none⟩) lB).trans HCg.out) _ Try.underlying2 rfl), ?_⟩; simp only [Act.put, List.setIfInBounds_toArray, List.set_cons_zero, List.set_cons_succ]; go_big_quiet_on)
        first | go_big_quiet_skip | (go_big_quiet_want; go_big_quiet_op; refine ⟨_, fun W hW => (by have := quietSame hW (l02Is_any g 0 600 W); rw [c2] at this; exact this), ?_⟩; go_big_quiet_on)
        first | go_big_quiet_skip | (go_big_quiet_want; go_big_quiet_op; first | go_big_quiet_on | (refine ⟨_, fun _ _ => rfl, ?_⟩; go_big_quiet_on))
        go_big_quiet_want; go_big_quiet_op; first | go_big_quiet_on | (refine ⟨_, fun _ _ => rfl, ?_⟩; go_big_quiet_on)
        go_big_quiet_want; go_big_quiet_op; first | go_big_quiet_on | (refine ⟨_, fun _ _ => rfl, ?_⟩; go_big_quiet_on)
        first | go_big_quiet_skip | (go_big_quiet_want; go_big_quiet_op; first | go_big_quiet_on | (refine ⟨_, fun _ _ => rfl, ?_⟩; go_big_quiet_on))
        first | go_big_quiet_skip | (go_big_quiet_want; go_big_quiet_op; first | go_big_quiet_on | (refine ⟨_, fun _ _ => rfl, ?_⟩; go_big_quiet_on))
        first | go_big_quiet_skip | (go_big_quiet_want; go_big_quiet_op; first | go_big_quiet_on | (refine ⟨_, fun _ _ => rfl, ?_⟩; go_big_quiet_on))
        first | go_big_quiet_skip | (go_big_quiet_want; go_big_quiet_op; first | go_big_quiet_on | (refine ⟨_, fun _ _ => rfl, ?_⟩; go_big_quiet_on))
        first | go_big_quiet_skip | (go_big_quiet_want; go_big_quiet_op; first | go_big_quiet_on | (refine ⟨_, fun _ _ => rfl, ?_⟩; go_big_quiet_on))
        first | go_big_quiet_skip | (go_big_quiet_want; go_big_quiet_op; first | go_big_quiet_on | (refine ⟨_, fun _ _ => rfl, ?_⟩; go_big_quiet_on))
        first | go_big_quiet_skip | (go_big_quiet_want; go_big_quiet_op; first | go_big_quiet_on | (refine ⟨_, fun _ _ => rfl, ?_⟩; go_big_quiet_on))
        first | go_big_quiet_skip | (go_big_quiet_want; go_big_quiet_op; first | go_big_quiet_on | (refine ⟨_, fun _ _ => rfl, ?_⟩; go_big_quiet_on))
        first | go_big_quiet_skip | (go_big_quiet_want; refine ⟨.agg #[.int .i64 m0, .int .i64 m1, .int .i64 m2, .int .i64 m3, .int .i64 m4, .int .i64 m5, .int .i64 m6, .bool m7], fun W hW => (quietLoadCells 33 (.tmp 47) rfl B (o + q * 10) rfl [.int .i64 m0, .int .i64 m1, .int .i64 m2, .int .i64 m3, .int .i64 m4, .int .i64 m5, .int .i64 m6, .bool m7] (fun j v hv => (hW.cell (p := ⟨B, o + q * 10 + j, none⟩) lB).trans (HCm.out j v hv)) _ Try.underlying33 rfl (by kernel_rfl)), ?_⟩; simp only [Act.put, List.setIfInBounds_toArray, List.set_cons_zero, List.set_cons_succ]; go_big_quiet_on)
        first | go_big_quiet_skip | (go_big_quiet_want; go_big_quiet_op; first | go_big_quiet_on | (refine ⟨_, fun _ _ => rfl, ?_⟩; go_big_quiet_on))
        first | go_big_quiet_skip | (go_big_quiet_want; go_big_quiet_op; first | go_big_quiet_on | (refine ⟨_, fun _ _ => rfl, ?_⟩; go_big_quiet_on))
        first | go_big_quiet_skip | (go_big_quiet_want; go_big_quiet_op; first | go_big_quiet_on | (refine ⟨_, fun _ _ => rfl, ?_⟩; go_big_quiet_on))
        first | go_big_quiet_skip | (go_big_quiet_want; go_big_quiet_op; first | go_big_quiet_on | (refine ⟨_, fun _ _ => rfl, ?_⟩; go_big_quiet_on))
        first | go_big_quiet_skip | (go_big_quiet_want; refine ⟨.agg #[.int .i64 n0, .int .i64 n1, .int .i64 n2, .int .i64 n3, .int .i64 n4, .int .i64 n5, .int .i64 n6, .bool n7], fun W hW => (quietLoadCells 33 (.tmp 52) rfl B (o + k * 10) rfl [.int .i64 n0, .int .i64 n1, .int .i64 n2, .int .i64 n3, .int .i64 n4, .int .i64 n5, .int .i64 n6, .bool n7] (fun j v hv => (hW.cell (p := ⟨B, o + k * 10 + j, none⟩) lB).trans (HCn.out j v hv)) _ Try.underlying33 rfl (by kernel_rfl)), ?_⟩; simp only [Act.put, List.setIfInBounds_toArray, List.set_cons_zero, List.set_cons_succ]; go_big_quiet_on)
        first | go_big_quiet_skip | (go_big_quiet_want; go_big_quiet_op; refine ⟨_, fun W hW => quietCall hW (HLs W).out, ?_⟩; go_big_quiet_on)
        first | go_big_quiet_skip | (go_big_quiet_want; go_big_quiet_op; first | go_big_quiet_on | (refine ⟨_, fun _ _ => rfl, ?_⟩; go_big_quiet_on))
        first | go_big_quiet_skip | (go_big_quiet_want; go_big_quiet_op; first | go_big_quiet_on | (refine ⟨_, fun _ _ => rfl, ?_⟩; go_big_quiet_on))
        go_big_quiet_want; go_big_quiet_op; first | go_big_quiet_on | (refine ⟨_, fun _ _ => rfl, ?_⟩; go_big_quiet_on)
        refine wpQuiet_nil ?_
        intro wx hx
        go_wp2_with fail
        go_ret
        exact ⟨by rw [hv.out]; rfl, hb.trans (hx.mono hb.size)⟩
      rcases c2 : inB 0 600 g with _ | _
      · have hv := Lib.hid (HNo.out (by rw [HE.out, c0, c1, c2]; rfl))
        refine wp_region_quiet (C := fun W => Below wr.heap.size wr W) (by kernel_rfl) (by kernel_rfl) (Below.refl _ _).drew ?_
        dsimp only
        try simp only [Act.put, List.setIfInBounds_toArray, List.set_cons_zero, List.set_cons_succ]
        go_big_quiet_want; go_big_quiet_op; first | go_big_quiet_on | (refine ⟨_, fun _ _ => rfl, ?_⟩; go_big_quiet_on)
        go_big_quiet_want; go_big_quiet_op; first | go_big_quiet_on | (refine ⟨_, fun _ _ => rfl, ?_⟩; go_big_quiet_on)
        go_big_quiet_want; go_big_quiet_op; first | go_big_quiet_on | (refine ⟨_, fun _ _ => rfl, ?_⟩; go_big_quiet_on)
        go_big_quiet_want; go_big_quiet_op; first | go_big_quiet_on | (refine ⟨_, fun _ _ => rfl, ?_⟩; go_big_quiet_on)
        go_big_quiet_want; refine ⟨.agg #[.int .i64 n0, .int .i64 n1, .int .i64 n2, .int .i64 n3, .int .i64 n4, .int .i64 n5, .int .i64 n6, .bool n7], fun W hW => (quietLoadCells 33 (.tmp 17) rfl B (o + k * 10) rfl [.int .i64 n0, .int .i64 n1, .int .i64 n2, .int .i64 n3, .int .i64 n4, .int .i64 n5, .int .i64 n6, .bool n7] (fun j v hv => (hW.cell (p := ⟨B, o + k * 10 + j, none⟩) lB).trans (HCn.out j v hv)) _ Try.underlying33 rfl (by kernel_rfl)), ?_⟩; simp only [Act.put, List.setIfInBounds_toArray, List.set_cons_zero, List.set_cons_succ]; go_big_quiet_on
        go_big_quiet_want; go_big_quiet_op; refine ⟨_, fun W hW => quietCall hW (HNk W).out, ?_⟩; go_big_quiet_on
        go_big_quiet_want; go_big_quiet_op; first | go_big_quiet_on | (refine ⟨_, fun _ _ => rfl, ?_⟩; go_big_quiet_on)
        go_big_quiet_want; go_big_quiet_op; first | go_big_quiet_on | (refine ⟨_, fun _ _ => rfl, ?_⟩; go_big_quiet_on)
        first | go_big_quiet_skip | (go_big_quiet_want; go_big_quiet_op; first | go_big_quiet_on | (refine ⟨_, fun _ _ => rfl, ?_⟩; go_big_quiet_on))
        first | go_big_quiet_skip | (go_big_quiet_want; go_big_quiet_op; first | go_big_quiet_on | (refine ⟨_, fun _ _ => rfl, ?_⟩; go_big_quiet_on))
        first | go_big_quiet_skip | (go_big_quiet_want; go_big_quiet_op; first | go_big_quiet_on | (refine ⟨_, fun _ _ => rfl, ?_⟩; go_big_quiet_on))
        first | go_big_quiet_skip | (go_big_quiet_want; go_big_quiet_op; first | go_big_quiet_on | (refine ⟨_, fun _ _ => rfl, ?_⟩; go_big_quiet_on))
        first | go_big_quiet_skip | (go_big_quiet_want; refine ⟨.int .i64 ad, fun W hW => (quietLoadOne 2 (.tmp 25) rfl B (o + k * 10 + 8) rfl (.int .i64 ad) ((hW.cell (p := ⟨B, o + k * 10 + 8, none⟩) lB).trans HCa.out) _ Try.underlying2 rfl), ?_⟩; simp only [Act.put, List.setIfInBounds_toArray, List.set_cons_zero, List.set_cons_succ]; go_big_quiet_on)
        first | go_big_quiet_skip | (go_big_quiet_want; go_big_quiet_op; refine ⟨_, fun W hW => (by have := quietSame hW (l05Addr_any ad W); rw [c1] at this; exact this), ?_⟩; go_big_quiet_on)
        first | go_big_quiet_skip | (go_big_quiet_want; go_big_quiet_op; first | go_big_quiet_on | (refine ⟨_, fun _ _ => rfl, ?_⟩; go_big_quiet_on))
        go_big_quiet_want; go_big_quiet_op; first | go_big_quiet_on | (refine ⟨_, fun _ _ => rfl, ?_⟩; go_big_quiet_on)
        go_big_quiet_want; go_big_quiet_op; first | go_big_quiet_on | (refine ⟨_, fun _ _ => rfl, ?_⟩; go_big_quiet_on)
        first | go_big_quiet_skip | (go_big_quiet_want; go_big_quiet_op; first | go_big_quiet_on | (refine ⟨_, fun _ _ => rfl, ?_⟩; go_big_quiet_on))
        first | go_big_quiet_skip | (go_big_quiet_want; go_big_quiet_op; first | go_big_quiet_on | (refine ⟨_, fun _ _ => rfl, ?_⟩; go_big_quiet_on))
        first | go_big_quiet_skip | (go_big_quiet_want; go_big_quiet_op; first | go_big_quiet_on | (refine ⟨_, fun _ _ => rfl, ?_⟩; go_big_quiet_on))
        first | go_big_quiet_skip | (go_big_quiet_want; go_big_quiet_op; first | go_big_quiet_on | (refine ⟨_, fun _ _ => rfl, ?_⟩; go_big_quiet_on))
        first | go_big_quiet_skip | (go_big_quiet_want; refine ⟨.int .i64 g, fun W hW => (quietLoadOne 2 (.tmp 34) rfl B (o + k * 10 + 9) rfl (.int .i64 g) ((hW.cell (p := ⟨B, o + k * 10 + 9, none⟩) lB).trans HCg.out) _ Try.underlying2 rfl), ?_⟩; simp only [Act.put, List.setIfInBounds_toArray, List.set_cons_zero, List.set_cons_succ]; go_big_quiet_on)
        first | go_big_quiet_skip | (go_big_quiet_want; go_big_quiet_op; refine ⟨_, fun W hW => (by have := quietSame hW (l02Is_any g 0 600 W); rw [c2] at this; exact this), ?_⟩; go_big_quiet_on)
        first | go_big_quiet_skip | (go_big_quiet_want; go_big_quiet_op; first | go_big_quiet_on | (refine ⟨_, fun _ _ => rfl, ?_⟩; go_big_quiet_on))
        go_big_quiet_want; go_big_quiet_op; first | go_big_quiet_on | (refine ⟨_, fun _ _ => rfl, ?_⟩; go_big_quiet_on)
        go_big_quiet_want; go_big_quiet_op; first | go_big_quiet_on | (refine ⟨_, fun _ _ => rfl, ?_⟩; go_big_quiet_on)
        first | go_big_quiet_skip | (go_big_quiet_want; go_big_quiet_op; first | go_big_quiet_on | (refine ⟨_, fun _ _ => rfl, ?_⟩; go_big_quiet_on))
        first | go_big_quiet_skip | (go_big_quiet_want; go_big_quiet_op; first | go_big_quiet_on | (refine ⟨_, fun _ _ => rfl, ?_⟩; go_big_quiet_on))
        first | go_big_quiet_skip | (go_big_quiet_want; go_big_quiet_op; first | go_big_quiet_on | (refine ⟨_, fun _ _ => rfl, ?_⟩; go_big_quiet_on))
        first | go_big_quiet_skip | (go_big_quiet_want; go_big_quiet_op; first | go_big_quiet_on | (refine ⟨_, fun _ _ => rfl, ?_⟩; go_big_quiet_on))
        first | go_big_quiet_skip | (go_big_quiet_want; go_big_quiet_op; first | go_big_quiet_on | (refine ⟨_, fun _ _ => rfl, ?_⟩; go_big_quiet_on))
        first | go_big_quiet_skip | (go_big_quiet_want; go_big_quiet_op; first | go_big_quiet_on | (refine ⟨_, fun _ _ => rfl, ?_⟩; go_big_quiet_on))
        first | go_big_quiet_skip | (go_big_quiet_want; go_big_quiet_op; first | go_big_quiet_on | (refine ⟨_, fun _ _ => rfl, ?_⟩; go_big_quiet_on))
        first | go_big_quiet_skip | (go_big_quiet_want; go_big_quiet_op; first | go_big_quiet_on | (refine ⟨_, fun _ _ => rfl, ?_⟩; go_big_quiet_on))
        first | go_big_quiet_skip | (go_big_quiet_want; refine ⟨.agg #[.int .i64 m0, .int .i64 m1, .int .i64 m2, .int .i64 m3, .int .i64 m4, .int .i64 m5, .int .i64 m6, .bool m7], fun W hW => (quietLoadCells 33 (.tmp 47) rfl B (o + q * 10) rfl [.int .i64 m0, .int .i64 m1, .int .i64 m2, .int .i64 m3, .int .i64 m4, .int .i64 m5, .int .i64 m6, .bool m7] (fun j v hv => (hW.cell (p := ⟨B, o + q * 10 + j, none⟩) lB).trans (HCm.out j v hv)) _ Try.underlying33 rfl (by kernel_rfl)), ?_⟩; simp only [Act.put, List.setIfInBounds_toArray, List.set_cons_zero, List.set_cons_succ]; go_big_quiet_on)
        first | go_big_quiet_skip | (go_big_quiet_want; go_big_quiet_op; first | go_big_quiet_on | (refine ⟨_, fun _ _ => rfl, ?_⟩; go_big_quiet_on))
        first | go_big_quiet_skip | (go_big_quiet_want; go_big_quiet_op; first | go_big_quiet_on | (refine ⟨_, fun _ _ => rfl, ?_⟩; go_big_quiet_on))
        first | go_big_quiet_skip | (go_big_quiet_want; go_big_quiet_op; first | go_big_quiet_on | (refine ⟨_, fun _ _ => rfl, ?_⟩; go_big_quiet_on))
        first | go_big_quiet_skip | (go_big_quiet_want; go_big_quiet_op; first | go_big_quiet_on | (refine ⟨_, fun _ _ => rfl, ?_⟩; go_big_quiet_on))
        first | go_big_quiet_skip | (go_big_quiet_want; refine ⟨.agg #[.int .i64 n0, .int .i64 n1, .int .i64 n2, .int .i64 n3, .int .i64 n4, .int .i64 n5, .int .i64 n6, .bool n7], fun W hW => (quietLoadCells 33 (.tmp 52) rfl B (o + k * 10) rfl [.int .i64 n0, .int .i64 n1, .int .i64 n2, .int .i64 n3, .int .i64 n4, .int .i64 n5, .int .i64 n6, .bool n7] (fun j v hv => (hW.cell (p := ⟨B, o + k * 10 + j, none⟩) lB).trans (HCn.out j v hv)) _ Try.underlying33 rfl (by kernel_rfl)), ?_⟩; simp only [Act.put, List.setIfInBounds_toArray, List.set_cons_zero, List.set_cons_succ]; go_big_quiet_on)
        first | go_big_quiet_skip | (go_big_quiet_want; go_big_quiet_op; refine ⟨_, fun W hW => quietCall hW (HLs W).out, ?_⟩; go_big_quiet_on)
        first | go_big_quiet_skip | (go_big_quiet_want; go_big_quiet_op; first | go_big_quiet_on | (refine ⟨_, fun _ _ => rfl, ?_⟩; go_big_quiet_on))
        first | go_big_quiet_skip | (go_big_quiet_want; go_big_quiet_op; first | go_big_quiet_on | (refine ⟨_, fun _ _ => rfl, ?_⟩; go_big_quiet_on))
        go_big_quiet_want; go_big_quiet_op; first | go_big_quiet_on | (refine ⟨_, fun _ _ => rfl, ?_⟩; go_big_quiet_on)
        refine wpQuiet_nil ?_
        intro wx hx
        go_wp2_with fail
        go_ret
        exact ⟨by rw [hv.out]; rfl, hb.trans (hx.mono hb.size)⟩
      by_cases m0 : k = 0
      · have e0 : decide ((0 : Int) < (k : Int)) = false := decide_eq_false (by omega)
        have e0n : decide (0 < k) = false := decide_eq_false (by omega)
        have HE2 := Lib.hid (show dvsAt l k = allR (fun t => !((dvAt l t).ad == ad)) k by rw [HE.out, c0, c1, c2, decide_eq_true m0]; simp)
        clear m0
        refine wp_region_quiet (C := fun W => Below wr.heap.size wr W) (by kernel_rfl) (by kernel_rfl) (Below.refl _ _).drew ?_
        dsimp only
        try simp only [Act.put, List.setIfInBounds_toArray, List.set_cons_zero, List.set_cons_succ]
        go_big_quiet_want; go_big_quiet_op; first | go_big_quiet_on | (refine ⟨_, fun _ _ => rfl, ?_⟩; go_big_quiet_on)
        go_big_quiet_want; go_big_quiet_op; first | go_big_quiet_on | (refine ⟨_, fun _ _ => rfl, ?_⟩; go_big_quiet_on)
        go_big_quiet_want; go_big_quiet_op; first | go_big_quiet_on | (refine ⟨_, fun _ _ => rfl, ?_⟩; go_big_quiet_on)
        go_big_quiet_want; go_big_quiet_op; first | go_big_quiet_on | (refine ⟨_, fun _ _ => rfl, ?_⟩; go_big_quiet_on)
        go_big_quiet_want; refine ⟨.agg #[.int .i64 n0, .int .i64 n1, .int .i64 n2, .int .i64 n3, .int .i64 n4, .int .i64 n5, .int .i64 n6, .bool n7], fun W hW => (quietLoadCells 33 (.tmp 17) rfl B (o + k * 10) rfl [.int .i64 n0, .int .i64 n1, .int .i64 n2, .int .i64 n3, .int .i64 n4, .int .i64 n5, .int .i64 n6, .bool n7] (fun j v hv => (hW.cell (p := ⟨B, o + k * 10 + j, none⟩) lB).trans (HCn.out j v hv)) _ Try.underlying33 rfl (by kernel_rfl)), ?_⟩; simp only [Act.put, List.setIfInBounds_toArray, List.set_cons_zero, List.set_cons_succ]; go_big_quiet_on
        go_big_quiet_want; go_big_quiet_op; refine ⟨_, fun W hW => quietCall hW (HNk W).out, ?_⟩; go_big_quiet_on
        go_big_quiet_want; go_big_quiet_op; first | go_big_quiet_on | (refine ⟨_, fun _ _ => rfl, ?_⟩; go_big_quiet_on)
        go_big_quiet_want; go_big_quiet_op; first | go_big_quiet_on | (refine ⟨_, fun _ _ => rfl, ?_⟩; go_big_quiet_on)
        first | go_big_quiet_skip | (go_big_quiet_want; go_big_quiet_op; first | go_big_quiet_on | (refine ⟨_, fun _ _ => rfl, ?_⟩; go_big_quiet_on))
        first | go_big_quiet_skip | (go_big_quiet_want; go_big_quiet_op; first | go_big_quiet_on | (refine ⟨_, fun _ _ => rfl, ?_⟩; go_big_quiet_on))
        first | go_big_quiet_skip | (go_big_quiet_want; go_big_quiet_op; first | go_big_quiet_on | (refine ⟨_, fun _ _ => rfl, ?_⟩; go_big_quiet_on))
        first | go_big_quiet_skip | (go_big_quiet_want; go_big_quiet_op; first | go_big_quiet_on | (refine ⟨_, fun _ _ => rfl, ?_⟩; go_big_quiet_on))
        first | go_big_quiet_skip | (go_big_quiet_want; refine ⟨.int .i64 ad, fun W hW => (quietLoadOne 2 (.tmp 25) rfl B (o + k * 10 + 8) rfl (.int .i64 ad) ((hW.cell (p := ⟨B, o + k * 10 + 8, none⟩) lB).trans HCa.out) _ Try.underlying2 rfl), ?_⟩; simp only [Act.put, List.setIfInBounds_toArray, List.set_cons_zero, List.set_cons_succ]; go_big_quiet_on)
        first | go_big_quiet_skip | (go_big_quiet_want; go_big_quiet_op; refine ⟨_, fun W hW => (by have := quietSame hW (l05Addr_any ad W); rw [c1] at this; exact this), ?_⟩; go_big_quiet_on)
        first | go_big_quiet_skip | (go_big_quiet_want; go_big_quiet_op; first | go_big_quiet_on | (refine ⟨_, fun _ _ => rfl, ?_⟩; go_big_quiet_on))
        go_big_quiet_want; go_big_quiet_op; first | go_big_quiet_on | (refine ⟨_, fun _ _ => rfl, ?_⟩; go_big_quiet_on)
        go_big_quiet_want; go_big_quiet_op; first | go_big_quiet_on | (refine ⟨_, fun _ _ => rfl, ?_⟩; go_big_quiet_on)
        first | go_big_quiet_skip | (go_big_quiet_want; go_big_quiet_op; first | go_big_quiet_on | (refine ⟨_, fun _ _ => rfl, ?_⟩; go_big_quiet_on))
        first | go_big_quiet_skip | (go_big_quiet_want; go_big_quiet_op; first | go_big_quiet_on | (refine ⟨_, fun _ _ => rfl, ?_⟩; go_big_quiet_on))
        first | go_big_quiet_skip | (go_big_quiet_want; go_big_quiet_op; first | go_big_quiet_on | (refine ⟨_, fun _ _ => rfl, ?_⟩; go_big_quiet_on))
        first | go_big_quiet_skip | (go_big_quiet_want; go_big_quiet_op; first | go_big_quiet_on | (refine ⟨_, fun _ _ => rfl, ?_⟩; go_big_quiet_on))
        first | go_big_quiet_skip | (go_big_quiet_want; refine ⟨.int .i64 g, fun W hW => (quietLoadOne 2 (.tmp 34) rfl B (o + k * 10 + 9) rfl (.int .i64 g) ((hW.cell (p := ⟨B, o + k * 10 + 9, none⟩) lB).trans HCg.out) _ Try.underlying2 rfl), ?_⟩; simp only [Act.put, List.setIfInBounds_toArray, List.set_cons_zero, List.set_cons_succ]; go_big_quiet_on)
        first | go_big_quiet_skip | (go_big_quiet_want; go_big_quiet_op; refine ⟨_, fun W hW => (by have := quietSame hW (l02Is_any g 0 600 W); rw [c2] at this; exact this), ?_⟩; go_big_quiet_on)
        first | go_big_quiet_skip | (go_big_quiet_want; go_big_quiet_op; first | go_big_quiet_on | (refine ⟨_, fun _ _ => rfl, ?_⟩; go_big_quiet_on))
        go_big_quiet_want; go_big_quiet_op; first | go_big_quiet_on | (refine ⟨_, fun _ _ => rfl, ?_⟩; go_big_quiet_on)
        go_big_quiet_want; go_big_quiet_op; first | go_big_quiet_on | (refine ⟨_, fun _ _ => rfl, ?_⟩; go_big_quiet_on)
        first | go_big_quiet_skip | (go_big_quiet_want; go_big_quiet_op; first | go_big_quiet_on | (refine ⟨_, fun _ _ => rfl, ?_⟩; go_big_quiet_on))
        first | go_big_quiet_skip | (go_big_quiet_want; go_big_quiet_op; first | go_big_quiet_on | (refine ⟨_, fun _ _ => rfl, ?_⟩; go_big_quiet_on))
        first | go_big_quiet_skip | (go_big_quiet_want; go_big_quiet_op; first | go_big_quiet_on | (refine ⟨_, fun _ _ => rfl, ?_⟩; go_big_quiet_on))
        first | go_big_quiet_skip | (go_big_quiet_want; go_big_quiet_op; first | go_big_quiet_on | (refine ⟨_, fun _ _ => rfl, ?_⟩; go_big_quiet_on))
        first | go_big_quiet_skip | (go_big_quiet_want; go_big_quiet_op; first | go_big_quiet_on | (refine ⟨_, fun _ _ => rfl, ?_⟩; go_big_quiet_on))
        first | go_big_quiet_skip | (go_big_quiet_want; go_big_quiet_op; first | go_big_quiet_on | (refine ⟨_, fun _ _ => rfl, ?_⟩; go_big_quiet_on))
        first | go_big_quiet_skip | (go_big_quiet_want; go_big_quiet_op; first | go_big_quiet_on | (refine ⟨_, fun _ _ => rfl, ?_⟩; go_big_quiet_on))
        first | go_big_quiet_skip | (go_big_quiet_want; go_big_quiet_op; first | go_big_quiet_on | (refine ⟨_, fun _ _ => rfl, ?_⟩; go_big_quiet_on))
        first | go_big_quiet_skip | (go_big_quiet_want; refine ⟨.agg #[.int .i64 m0, .int .i64 m1, .int .i64 m2, .int .i64 m3, .int .i64 m4, .int .i64 m5, .int .i64 m6, .bool m7], fun W hW => (quietLoadCells 33 (.tmp 47) rfl B (o + q * 10) rfl [.int .i64 m0, .int .i64 m1, .int .i64 m2, .int .i64 m3, .int .i64 m4, .int .i64 m5, .int .i64 m6, .bool m7] (fun j v hv => (hW.cell (p := ⟨B, o + q * 10 + j, none⟩) lB).trans (HCm.out j v hv)) _ Try.underlying33 rfl (by kernel_rfl)), ?_⟩; simp only [Act.put, List.setIfInBounds_toArray, List.set_cons_zero, List.set_cons_succ]; go_big_quiet_on)
        first | go_big_quiet_skip | (go_big_quiet_want; go_big_quiet_op; first | go_big_quiet_on | (refine ⟨_, fun _ _ => rfl, ?_⟩; go_big_quiet_on))
        first | go_big_quiet_skip | (go_big_quiet_want; go_big_quiet_op; first | go_big_quiet_on | (refine ⟨_, fun _ _ => rfl, ?_⟩; go_big_quiet_on))
        first | go_big_quiet_skip | (go_big_quiet_want; go_big_quiet_op; first | go_big_quiet_on | (refine ⟨_, fun _ _ => rfl, ?_⟩; go_big_quiet_on))
        first | go_big_quiet_skip | (go_big_quiet_want; go_big_quiet_op; first | go_big_quiet_on | (refine ⟨_, fun _ _ => rfl, ?_⟩; go_big_quiet_on))
        first | go_big_quiet_skip | (go_big_quiet_want; refine ⟨.agg #[.int .i64 n0, .int .i64 n1, .int .i64 n2, .int .i64 n3, .int .i64 n4, .int .i64 n5, .int .i64 n6, .bool n7], fun W hW => (quietLoadCells 33 (.tmp 52) rfl B (o + k * 10) rfl [.int .i64 n0, .int .i64 n1, .int .i64 n2, .int .i64 n3, .int .i64 n4, .int .i64 n5, .int .i64 n6, .bool n7] (fun j v hv => (hW.cell (p := ⟨B, o + k * 10 + j, none⟩) lB).trans (HCn.out j v hv)) _ Try.underlying33 rfl (by kernel_rfl)), ?_⟩; simp only [Act.put, List.setIfInBounds_toArray, List.set_cons_zero, List.set_cons_succ]; go_big_quiet_on)
        first | go_big_quiet_skip | (go_big_quiet_want; go_big_quiet_op; refine ⟨_, fun W hW => quietCall hW (HLs W).out, ?_⟩; go_big_quiet_on)
        first | go_big_quiet_skip | (go_big_quiet_want; go_big_quiet_op; first | go_big_quiet_on | (refine ⟨_, fun _ _ => rfl, ?_⟩; go_big_quiet_on))
        first | go_big_quiet_skip | (go_big_quiet_want; go_big_quiet_op; first | go_big_quiet_on | (refine ⟨_, fun _ _ => rfl, ?_⟩; go_big_quiet_on))
        go_big_quiet_want; go_big_quiet_op; first | go_big_quiet_on | (refine ⟨_, fun _ _ => rfl, ?_⟩; go_big_quiet_on)
        refine wpQuiet_nil ?_
        intro wx hx
        go_wp2_with fail
        have HB2 := Lib.hid (hb.trans (hx.mono hb.size))
        have HCk := Lib.hid (show wr.cell? ⟨B, o + k * 10 + 8, none⟩ = some (.int .i64 ad) from HCa.out)
        have HX2 := Lib.hid hx
        clear hx
        go_loopw [4] (fun i wz => ∃ m : Nat, i = .int .i64 (m : Int) ∧ m ≤ k ∧ (∀ t, t < m → (!((dvAt l t).ad == ad)) = true) ∧ Below wx.heap.size wx wz) (fun i _ => k - (intOf i).toNat)
        case atStart => exact ⟨0, rfl, by omega, fun j hj => absurd hj (by omega), Below.refl _ _⟩
        case round =>
          obtain ⟨m, rfl, hm, hall, hz⟩ := hrel
          have HM := Lib.hid hall
          clear hall
          rename World => wz
          by_cases hmk : m < k
          · have hj1 : (0 : Int) ≤ (m : Int) := by omega
            have hj2 : (m : Int) < (N : Int) := by omega
            have hj3 : (m : Int) < (k : Int) := by omega
            have hz2 := HB2.out.trans (hz.mono HB2.out.size)
            have lz : B < wz.heap.size := Nat.lt_of_lt_of_le hlt hz2.size
            have HD := Lib.hid (show wz.cell? ⟨B, o + m * 10 + 8, none⟩ = some (.int .i64 (dvAt l m).ad) from (hz2.cell (p := ⟨B, _, none⟩) hlt).trans (HCw.out m _ (dvAt_some (by have := HN.out; omega)) 8 _ rfl))
            have HDk := Lib.hid (show wz.cell? ⟨B, o + k * 10 + 8, none⟩ = some (.int .i64 ad) from ((HX2.out.trans (hz.mono HX2.out.size)).cell (p := ⟨B, _, none⟩) lB).trans HCk.out)
            have HP := Lib.hid (show (dvAt l m).ad = (dvAt l m).ad from rfl)
            go_wp2_with fail
            by_cases had : (dvAt l m).ad = ad
            · have hv := Lib.hid (HNo.out (by rw [HE2.out]; exact allR_no hmk (by simp [had])))
              have hab : ((dvAt l m).ad == ad) = true := by simp [had]
              clear had HP
              generalize (dvAt l m).ad = pa at HD hab
              refine wp_region_quiet (C := fun W => Below wz.heap.size wz W) (by kernel_rfl) (by kernel_rfl) (Below.refl _ _).drew ?_
              dsimp only
              try simp only [Act.put, List.setIfInBounds_toArray, List.set_cons_zero, List.set_cons_succ]
              go_big_quiet_want; go_big_quiet_op; first | go_big_quiet_on | (refine ⟨_, fun _ _ => rfl, ?_⟩; go_big_quiet_on)
              go_big_quiet_want; go_big_quiet_op; first | go_big_quiet_on | (refine ⟨_, fun _ _ => rfl, ?_⟩; go_big_quiet_on)
              go_big_quiet_want; go_big_quiet_op; first | go_big_quiet_on | (refine ⟨_, fun _ _ => rfl, ?_⟩; go_big_quiet_on)
              go_big_quiet_want; go_big_quiet_op; first | go_big_quiet_on | (refine ⟨_, fun _ _ => rfl, ?_⟩; go_big_quiet_on)
              go_big_quiet_want; refine ⟨.int .i64 pa, fun W hW => (quietLoadOne 2 (.tmp 66) rfl B (o + m * 10 + 8) rfl (.int .i64 pa) ((hW.cell (p := ⟨B, o + m * 10 + 8, none⟩) lz).trans HD.out) _ Try.underlying2 rfl), ?_⟩; simp only [Act.put, List.setIfInBounds_toArray, List.set_cons_zero, List.set_cons_succ]; go_big_quiet_on
              go_big_quiet_want; go_big_quiet_op; first | go_big_quiet_on | (refine ⟨_, fun _ _ => rfl, ?_⟩; go_big_quiet_on)
              go_big_quiet_want; go_big_quiet_op; first | go_big_quiet_on | (refine ⟨_, fun _ _ => rfl, ?_⟩; go_big_quiet_on)
              go_big_quiet_want; go_big_quiet_op; first | go_big_quiet_on | (refine ⟨_, fun _ _ => rfl, ?_⟩; go_big_quiet_on)
              go_big_quiet_want; go_big_quiet_op; first | go_big_quiet_on | (refine ⟨_, fun _ _ => rfl, ?_⟩; go_big_quiet_on)
              go_big_quiet_want; refine ⟨.int .i64 ad, fun W hW => (quietLoadOne 2 (.tmp 71) rfl B (o + k * 10 + 8) rfl (.int .i64 ad) ((hW.cell (p := ⟨B, o + k * 10 + 8, none⟩) lz).trans HDk.out) _ Try.underlying2 rfl), ?_⟩; simp only [Act.put, List.setIfInBounds_toArray, List.set_cons_zero, List.set_cons_succ]; go_big_quiet_on
              go_big_quiet_want; go_big_quiet_op; first | go_big_quiet_on | (refine ⟨_, fun _ _ => rfl, ?_⟩; go_big_quiet_on)
              refine wpQuiet_nil ?_
              intro X hX
              go_wp2_with fail
              go_ret
              exact ⟨by rw [hv.out]; rfl, hz2.trans (hX.mono hz2.size)⟩
            · have HT := Lib.hid (show (!((dvAt l m).ad == ad)) = true by simp [had])
              have hab : ((dvAt l m).ad == ad) = false := by simp [had]
              clear had HP
              generalize (dvAt l m).ad = pa at HD hab
              refine wp_region_quiet (C := fun W => Below wz.heap.size wz W) (by kernel_rfl) (by kernel_rfl) (Below.refl _ _).drew ?_
              dsimp only
              try simp only [Act.put, List.setIfInBounds_toArray, List.set_cons_zero, List.set_cons_succ]
              go_big_quiet_want; go_big_quiet_op; first | go_big_quiet_on | (refine ⟨_, fun _ _ => rfl, ?_⟩; go_big_quiet_on)
              go_big_quiet_want; go_big_quiet_op; first | go_big_quiet_on | (refine ⟨_, fun _ _ => rfl, ?_⟩; go_big_quiet_on)
              go_big_quiet_want; go_big_quiet_op; first | go_big_quiet_on | (refine ⟨_, fun _ _ => rfl, ?_⟩; go_big_quiet_on)
              go_big_quiet_want; go_big_quiet_op; first | go_big_quiet_on | (refine ⟨_, fun _ _ => rfl, ?_⟩; go_big_quiet_on)
              go_big_quiet_want; refine ⟨.int .i64 pa, fun W hW => (quietLoadOne 2 (.tmp 66) rfl B (o + m * 10 + 8) rfl (.int .i64 pa) ((hW.cell (p := ⟨B, o + m * 10 + 8, none⟩) lz).trans HD.out) _ Try.underlying2 rfl), ?_⟩; simp only [Act.put, List.setIfInBounds_toArray, List.set_cons_zero, List.set_cons_succ]; go_big_quiet_on
              go_big_quiet_want; go_big_quiet_op; first | go_big_quiet_on | (refine ⟨_, fun _ _ => rfl, ?_⟩; go_big_quiet_on)
              go_big_quiet_want; go_big_quiet_op; first | go_big_quiet_on | (refine ⟨_, fun _ _ => rfl, ?_⟩; go_big_quiet_on)
              go_big_quiet_want; go_big_quiet_op; first | go_big_quiet_on | (refine ⟨_, fun _ _ => rfl, ?_⟩; go_big_quiet_on)
              go_big_quiet_want; go_big_quiet_op; first | go_big_quiet_on | (refine ⟨_, fun _ _ => rfl, ?_⟩; go_big_quiet_on)
              go_big_quiet_want; refine ⟨.int .i64 ad, fun W hW => (quietLoadOne 2 (.tmp 71) rfl B (o + k * 10 + 8) rfl (.int .i64 ad) ((hW.cell (p := ⟨B, o + k * 10 + 8, none⟩) lz).trans HDk.out) _ Try.underlying2 rfl), ?_⟩; simp only [Act.put, List.setIfInBounds_toArray, List.set_cons_zero, List.set_cons_succ]; go_big_quiet_on
              go_big_quiet_want; go_big_quiet_op; first | go_big_quiet_on | (refine ⟨_, fun _ _ => rfl, ?_⟩; go_big_quiet_on)
              refine wpQuiet_nil ?_
              intro X hX
              go_wp2_with fail
              go_roundw
              case rel => exact ⟨m + 1, by go_num, by omega, fun j hj => (Nat.lt_or_ge j m).elim (HM.out j) (fun g => (show j = m by omega) ▸ HT.out), hz.trans (hX.mono hz.size)⟩
              case measure => simp [intOf]; omega
          · have hj3 : ¬ (m : Int) < (k : Int) := by omega
            have hmf : decide (m < k) = false := decide_eq_false (by omega)
            have hmf2 : decide ((m : Int) < (k : Int)) = false := decide_eq_false (by omega)
            have HT := Lib.hid (show dvsAt l k = true by rw [HE2.out]; exact allR_yes (fun t ht => HM.out t (by omega)))
            have hz2 := HB2.out.trans (hz.mono HB2.out.size)
            go_wp2_with fail
            go_roundw
            case rel => exact ⟨k + 1, by go_num, by omega, fun j hj => (Nat.lt_or_ge j k).elim (HA.out j) (fun g => (show j = k by omega) ▸ HT.out), hz2⟩
            case measure => simp [intOf]; omega
      · obtain ⟨q, hq⟩ : ∃ q, k = q + 1 := ⟨k - 1, by omega⟩
        have e0 : decide ((0 : Int) < (k : Int)) = true := decide_eq_true (by omega)
        have e0n : decide (0 < k) = true := decide_eq_true (by omega)
        have p0 : 0 < k := by omega
        have e1 : IntKind.i64.wrap ((k : Int) - 1) = (q : Int) := by rw [IntWalk.i64_in _ (by omega)]; omega
        have hm1 : (0 : Int) ≤ (q : Int) := by omega
        have hm2 : (q : Int) < (N : Int) := by omega
        have HPo2 := HPo.out (by omega)
        rw [show k - 1 = q by omega, decide_eq_false m0] at HE
        rw [show k - 1 = q by omega] at HPo2
        have HCp := Lib.hid (fun j v hv => (hb.cell (p := ⟨B, _, none⟩) hlt).trans (HCw.out q _ (dvAt_some (by omega)) j v hv))
        have HLs := fun W => Lib.hid (l04Less_any (dvAt l q).n ⟨n0, n1, n2, n3, n4, n5, n6, n7⟩ W HPo2 c0)
        have HLB := Lib.hid (show nmLessB (dvAt l q).n ⟨n0, n1, n2, n3, n4, n5, n6, n7⟩ = decide (nmN (dvAt l q).n < nmN ⟨n0, n1, n2, n3, n4, n5, n6, n7⟩) by unfold nmLessB; rw [HPo2, c0]; rfl)
        rw [HLB.out] at HE
        clear HLB HPo2 HPo hq m0
        generalize dvAt l q = z at HCp HLs HE
        obtain ⟨⟨m0, m1, m2, m3, m4, m5, m6, m7⟩, yad, yg⟩ := z
        unfold dvL at HCp
        unfold nmV at HLs
        dsimp only at HCp HLs HE
        have HCm := Lib.hid (show ∀ (j : Nat) v, ([.int .i64 m0, .int .i64 m1, .int .i64 m2, .int .i64 m3, .int .i64 m4, .int .i64 m5, .int .i64 m6, .bool m7] : List Value)[j]? = some v → wr.cell? ⟨B, o + q * 10 + j, none⟩ = some v from fun j v hv => HCp.out j v (dv_nm m0 m1 m2 m3 m4 m5 m6 m7 yad yg j v hv))
        clear HCp
        generalize decide (nmN ⟨m0, m1, m2, m3, m4, m5, m6, m7⟩ < nmN ⟨n0, n1, n2, n3, n4, n5, n6, n7⟩) = Ls at HLs HE
        rcases Ls with _ | _
        · have hv := Lib.hid (HNo.out (by rw [HE.out, c0, c1, c2]; rfl))
          refine wp_region_quiet (C := fun W => Below wr.heap.size wr W) (by kernel_rfl) (by kernel_rfl) (Below.refl _ _).drew ?_
          dsimp only
          try simp only [Act.put, List.setIfInBounds_toArray, List.set_cons_zero, List.set_cons_succ]
          go_big_quiet_want; go_big_quiet_op; first | go_big_quiet_on | (refine ⟨_, fun _ _ => rfl, ?_⟩; go_big_quiet_on)
          go_big_quiet_want; go_big_quiet_op; first | go_big_quiet_on | (refine ⟨_, fun _ _ => rfl, ?_⟩; go_big_quiet_on)
          go_big_quiet_want; go_big_quiet_op; first | go_big_quiet_on | (refine ⟨_, fun _ _ => rfl, ?_⟩; go_big_quiet_on)
          go_big_quiet_want; go_big_quiet_op; first | go_big_quiet_on | (refine ⟨_, fun _ _ => rfl, ?_⟩; go_big_quiet_on)
          go_big_quiet_want; refine ⟨.agg #[.int .i64 n0, .int .i64 n1, .int .i64 n2, .int .i64 n3, .int .i64 n4, .int .i64 n5, .int .i64 n6, .bool n7], fun W hW => (quietLoadCells 33 (.tmp 17) rfl B (o + k * 10) rfl [.int .i64 n0, .int .i64 n1, .int .i64 n2, .int .i64 n3, .int .i64 n4, .int .i64 n5, .int .i64 n6, .bool n7] (fun j v hv => (hW.cell (p := ⟨B, o + k * 10 + j, none⟩) lB).trans (HCn.out j v hv)) _ Try.underlying33 rfl (by kernel_rfl)), ?_⟩; simp only [Act.put, List.setIfInBounds_toArray, List.set_cons_zero, List.set_cons_succ]; go_big_quiet_on
          go_big_quiet_want; go_big_quiet_op; refine ⟨_, fun W hW => quietCall hW (HNk W).out, ?_⟩; go_big_quiet_on
          go_big_quiet_want; go_big_quiet_op; first | go_big_quiet_on | (refine ⟨_, fun _ _ => rfl, ?_⟩; go_big_quiet_on)
          go_big_quiet_want; go_big_quiet_op; first | go_big_quiet_on | (refine ⟨_, fun _ _ => rfl, ?_⟩; go_big_quiet_on)
          first | go_big_quiet_skip | (go_big_quiet_want; go_big_quiet_op; first | go_big_quiet_on | (refine ⟨_, fun _ _ => rfl, ?_⟩; go_big_quiet_on))
          first | go_big_quiet_skip | (go_big_quiet_want; go_big_quiet_op; first | go_big_quiet_on | (refine ⟨_, fun _ _ => rfl, ?_⟩; go_big_quiet_on))
          first | go_big_quiet_skip | (go_big_quiet_want; go_big_quiet_op; first | go_big_quiet_on | (refine ⟨_, fun _ _ => rfl, ?_⟩; go_big_quiet_on))
          first | go_big_quiet_skip | (go_big_quiet_want; go_big_quiet_op; first | go_big_quiet_on | (refine ⟨_, fun _ _ => rfl, ?_⟩; go_big_quiet_on))
          first | go_big_quiet_skip | (go_big_quiet_want; refine ⟨.int .i64 ad, fun W hW => (quietLoadOne 2 (.tmp 25) rfl B (o + k * 10 + 8) rfl (.int .i64 ad) ((hW.cell (p := ⟨B, o + k * 10 + 8, none⟩) lB).trans HCa.out) _ Try.underlying2 rfl), ?_⟩; simp only [Act.put, List.setIfInBounds_toArray, List.set_cons_zero, List.set_cons_succ]; go_big_quiet_on)
          first | go_big_quiet_skip | (go_big_quiet_want; go_big_quiet_op; refine ⟨_, fun W hW => (by have := quietSame hW (l05Addr_any ad W); rw [c1] at this; exact this), ?_⟩; go_big_quiet_on)
          first | go_big_quiet_skip | (go_big_quiet_want; go_big_quiet_op; first | go_big_quiet_on | (refine ⟨_, fun _ _ => rfl, ?_⟩; go_big_quiet_on))
          go_big_quiet_want; go_big_quiet_op; first | go_big_quiet_on | (refine ⟨_, fun _ _ => rfl, ?_⟩; go_big_quiet_on)
          go_big_quiet_want; go_big_quiet_op; first | go_big_quiet_on | (refine ⟨_, fun _ _ => rfl, ?_⟩; go_big_quiet_on)
          first | go_big_quiet_skip | (go_big_quiet_want; go_big_quiet_op; first | go_big_quiet_on | (refine ⟨_, fun _ _ => rfl, ?_⟩; go_big_quiet_on))
          first | go_big_quiet_skip | (go_big_quiet_want; go_big_quiet_op; first | go_big_quiet_on | (refine ⟨_, fun _ _ => rfl, ?_⟩; go_big_quiet_on))
          first | go_big_quiet_skip | (go_big_quiet_want; go_big_quiet_op; first | go_big_quiet_on | (refine ⟨_, fun _ _ => rfl, ?_⟩; go_big_quiet_on))
          first | go_big_quiet_skip | (go_big_quiet_want; go_big_quiet_op; first | go_big_quiet_on | (refine ⟨_, fun _ _ => rfl, ?_⟩; go_big_quiet_on))
          first | go_big_quiet_skip | (go_big_quiet_want; refine ⟨.int .i64 g, fun W hW => (quietLoadOne 2 (.tmp 34) rfl B (o + k * 10 + 9) rfl (.int .i64 g) ((hW.cell (p := ⟨B, o + k * 10 + 9, none⟩) lB).trans HCg.out) _ Try.underlying2 rfl), ?_⟩; simp only [Act.put, List.setIfInBounds_toArray, List.set_cons_zero, List.set_cons_succ]; go_big_quiet_on)
          first | go_big_quiet_skip | (go_big_quiet_want; go_big_quiet_op; refine ⟨_, fun W hW => (by have := quietSame hW (l02Is_any g 0 600 W); rw [c2] at this; exact this), ?_⟩; go_big_quiet_on)
          first | go_big_quiet_skip | (go_big_quiet_want; go_big_quiet_op; first | go_big_quiet_on | (refine ⟨_, fun _ _ => rfl, ?_⟩; go_big_quiet_on))
          go_big_quiet_want; go_big_quiet_op; first | go_big_quiet_on | (refine ⟨_, fun _ _ => rfl, ?_⟩; go_big_quiet_on)
          go_big_quiet_want; go_big_quiet_op; first | go_big_quiet_on | (refine ⟨_, fun _ _ => rfl, ?_⟩; go_big_quiet_on)
          first | go_big_quiet_skip | (go_big_quiet_want; go_big_quiet_op; first | go_big_quiet_on | (refine ⟨_, fun _ _ => rfl, ?_⟩; go_big_quiet_on))
          first | go_big_quiet_skip | (go_big_quiet_want; go_big_quiet_op; first | go_big_quiet_on | (refine ⟨_, fun _ _ => rfl, ?_⟩; go_big_quiet_on))
          first | go_big_quiet_skip | (go_big_quiet_want; go_big_quiet_op; first | go_big_quiet_on | (refine ⟨_, fun _ _ => rfl, ?_⟩; go_big_quiet_on))
          first | go_big_quiet_skip | (go_big_quiet_want; go_big_quiet_op; first | go_big_quiet_on | (refine ⟨_, fun _ _ => rfl, ?_⟩; go_big_quiet_on))
          first | go_big_quiet_skip | (go_big_quiet_want; go_big_quiet_op; first | go_big_quiet_on | (refine ⟨_, fun _ _ => rfl, ?_⟩; go_big_quiet_on))
          first | go_big_quiet_skip | (go_big_quiet_want; go_big_quiet_op; first | go_big_quiet_on | (refine ⟨_, fun _ _ => rfl, ?_⟩; go_big_quiet_on))
          first | go_big_quiet_skip | (go_big_quiet_want; go_big_quiet_op; first | go_big_quiet_on | (refine ⟨_, fun _ _ => rfl, ?_⟩; go_big_quiet_on))
          first | go_big_quiet_skip | (go_big_quiet_want; go_big_quiet_op; first | go_big_quiet_on | (refine ⟨_, fun _ _ => rfl, ?_⟩; go_big_quiet_on))
          first | go_big_quiet_skip | (go_big_quiet_want; refine ⟨.agg #[.int .i64 m0, .int .i64 m1, .int .i64 m2, .int .i64 m3, .int .i64 m4, .int .i64 m5, .int .i64 m6, .bool m7], fun W hW => (quietLoadCells 33 (.tmp 47) rfl B (o + q * 10) rfl [.int .i64 m0, .int .i64 m1, .int .i64 m2, .int .i64 m3, .int .i64 m4, .int .i64 m5, .int .i64 m6, .bool m7] (fun j v hv => (hW.cell (p := ⟨B, o + q * 10 + j, none⟩) lB).trans (HCm.out j v hv)) _ Try.underlying33 rfl (by kernel_rfl)), ?_⟩; simp only [Act.put, List.setIfInBounds_toArray, List.set_cons_zero, List.set_cons_succ]; go_big_quiet_on)
          first | go_big_quiet_skip | (go_big_quiet_want; go_big_quiet_op; first | go_big_quiet_on | (refine ⟨_, fun _ _ => rfl, ?_⟩; go_big_quiet_on))
          first | go_big_quiet_skip | (go_big_quiet_want; go_big_quiet_op; first | go_big_quiet_on | (refine ⟨_, fun _ _ => rfl, ?_⟩; go_big_quiet_on))
          first | go_big_quiet_skip | (go_big_quiet_want; go_big_quiet_op; first | go_big_quiet_on | (refine ⟨_, fun _ _ => rfl, ?_⟩; go_big_quiet_on))
          first | go_big_quiet_skip | (go_big_quiet_want; go_big_quiet_op; first | go_big_quiet_on | (refine ⟨_, fun _ _ => rfl, ?_⟩; go_big_quiet_on))
          first | go_big_quiet_skip | (go_big_quiet_want; refine ⟨.agg #[.int .i64 n0, .int .i64 n1, .int .i64 n2, .int .i64 n3, .int .i64 n4, .int .i64 n5, .int .i64 n6, .bool n7], fun W hW => (quietLoadCells 33 (.tmp 52) rfl B (o + k * 10) rfl [.int .i64 n0, .int .i64 n1, .int .i64 n2, .int .i64 n3, .int .i64 n4, .int .i64 n5, .int .i64 n6, .bool n7] (fun j v hv => (hW.cell (p := ⟨B, o + k * 10 + j, none⟩) lB).trans (HCn.out j v hv)) _ Try.underlying33 rfl (by kernel_rfl)), ?_⟩; simp only [Act.put, List.setIfInBounds_toArray, List.set_cons_zero, List.set_cons_succ]; go_big_quiet_on)
          first | go_big_quiet_skip | (go_big_quiet_want; go_big_quiet_op; refine ⟨_, fun W hW => quietCall hW (HLs W).out, ?_⟩; go_big_quiet_on)
          first | go_big_quiet_skip | (go_big_quiet_want; go_big_quiet_op; first | go_big_quiet_on | (refine ⟨_, fun _ _ => rfl, ?_⟩; go_big_quiet_on))
          first | go_big_quiet_skip | (go_big_quiet_want; go_big_quiet_op; first | go_big_quiet_on | (refine ⟨_, fun _ _ => rfl, ?_⟩; go_big_quiet_on))
          go_big_quiet_want; go_big_quiet_op; first | go_big_quiet_on | (refine ⟨_, fun _ _ => rfl, ?_⟩; go_big_quiet_on)
          refine wpQuiet_nil ?_
          intro wx hx
          go_wp2_with fail
          go_ret
          exact ⟨by rw [hv.out]; rfl, hb.trans (hx.mono hb.size)⟩
        · have HE2 := Lib.hid (show dvsAt l k = allR (fun t => !((dvAt l t).ad == ad)) k by rw [HE.out, c0, c1, c2]; simp)
          refine wp_region_quiet (C := fun W => Below wr.heap.size wr W) (by kernel_rfl) (by kernel_rfl) (Below.refl _ _).drew ?_
          dsimp only
          try simp only [Act.put, List.setIfInBounds_toArray, List.set_cons_zero, List.set_cons_succ]
          go_big_quiet_want; go_big_quiet_op; first | go_big_quiet_on | (refine ⟨_, fun _ _ => rfl, ?_⟩; go_big_quiet_on)
          go_big_quiet_want; go_big_quiet_op; first | go_big_quiet_on | (refine ⟨_, fun _ _ => rfl, ?_⟩; go_big_quiet_on)
          go_big_quiet_want; go_big_quiet_op; first | go_big_quiet_on | (refine ⟨_, fun _ _ => rfl, ?_⟩; go_big_quiet_on)
          go_big_quiet_want; go_big_quiet_op; first | go_big_quiet_on | (refine ⟨_, fun _ _ => rfl, ?_⟩; go_big_quiet_on)
          go_big_quiet_want; refine ⟨.agg #[.int .i64 n0, .int .i64 n1, .int .i64 n2, .int .i64 n3, .int .i64 n4, .int .i64 n5, .int .i64 n6, .bool n7], fun W hW => (quietLoadCells 33 (.tmp 17) rfl B (o + k * 10) rfl [.int .i64 n0, .int .i64 n1, .int .i64 n2, .int .i64 n3, .int .i64 n4, .int .i64 n5, .int .i64 n6, .bool n7] (fun j v hv => (hW.cell (p := ⟨B, o + k * 10 + j, none⟩) lB).trans (HCn.out j v hv)) _ Try.underlying33 rfl (by kernel_rfl)), ?_⟩; simp only [Act.put, List.setIfInBounds_toArray, List.set_cons_zero, List.set_cons_succ]; go_big_quiet_on
          go_big_quiet_want; go_big_quiet_op; refine ⟨_, fun W hW => quietCall hW (HNk W).out, ?_⟩; go_big_quiet_on
          go_big_quiet_want; go_big_quiet_op; first | go_big_quiet_on | (refine ⟨_, fun _ _ => rfl, ?_⟩; go_big_quiet_on)
          go_big_quiet_want; go_big_quiet_op; first | go_big_quiet_on | (refine ⟨_, fun _ _ => rfl, ?_⟩; go_big_quiet_on)
          first | go_big_quiet_skip | (go_big_quiet_want; go_big_quiet_op; first | go_big_quiet_on | (refine ⟨_, fun _ _ => rfl, ?_⟩; go_big_quiet_on))
          first | go_big_quiet_skip | (go_big_quiet_want; go_big_quiet_op; first | go_big_quiet_on | (refine ⟨_, fun _ _ => rfl, ?_⟩; go_big_quiet_on))
          first | go_big_quiet_skip | (go_big_quiet_want; go_big_quiet_op; first | go_big_quiet_on | (refine ⟨_, fun _ _ => rfl, ?_⟩; go_big_quiet_on))
          first | go_big_quiet_skip | (go_big_quiet_want; go_big_quiet_op; first | go_big_quiet_on | (refine ⟨_, fun _ _ => rfl, ?_⟩; go_big_quiet_on))
          first | go_big_quiet_skip | (go_big_quiet_want; refine ⟨.int .i64 ad, fun W hW => (quietLoadOne 2 (.tmp 25) rfl B (o + k * 10 + 8) rfl (.int .i64 ad) ((hW.cell (p := ⟨B, o + k * 10 + 8, none⟩) lB).trans HCa.out) _ Try.underlying2 rfl), ?_⟩; simp only [Act.put, List.setIfInBounds_toArray, List.set_cons_zero, List.set_cons_succ]; go_big_quiet_on)
          first | go_big_quiet_skip | (go_big_quiet_want; go_big_quiet_op; refine ⟨_, fun W hW => (by have := quietSame hW (l05Addr_any ad W); rw [c1] at this; exact this), ?_⟩; go_big_quiet_on)
          first | go_big_quiet_skip | (go_big_quiet_want; go_big_quiet_op; first | go_big_quiet_on | (refine ⟨_, fun _ _ => rfl, ?_⟩; go_big_quiet_on))
          go_big_quiet_want; go_big_quiet_op; first | go_big_quiet_on | (refine ⟨_, fun _ _ => rfl, ?_⟩; go_big_quiet_on)
          go_big_quiet_want; go_big_quiet_op; first | go_big_quiet_on | (refine ⟨_, fun _ _ => rfl, ?_⟩; go_big_quiet_on)
          first | go_big_quiet_skip | (go_big_quiet_want; go_big_quiet_op; first | go_big_quiet_on | (refine ⟨_, fun _ _ => rfl, ?_⟩; go_big_quiet_on))
          first | go_big_quiet_skip | (go_big_quiet_want; go_big_quiet_op; first | go_big_quiet_on | (refine ⟨_, fun _ _ => rfl, ?_⟩; go_big_quiet_on))
          first | go_big_quiet_skip | (go_big_quiet_want; go_big_quiet_op; first | go_big_quiet_on | (refine ⟨_, fun _ _ => rfl, ?_⟩; go_big_quiet_on))
          first | go_big_quiet_skip | (go_big_quiet_want; go_big_quiet_op; first | go_big_quiet_on | (refine ⟨_, fun _ _ => rfl, ?_⟩; go_big_quiet_on))
          first | go_big_quiet_skip | (go_big_quiet_want; refine ⟨.int .i64 g, fun W hW => (quietLoadOne 2 (.tmp 34) rfl B (o + k * 10 + 9) rfl (.int .i64 g) ((hW.cell (p := ⟨B, o + k * 10 + 9, none⟩) lB).trans HCg.out) _ Try.underlying2 rfl), ?_⟩; simp only [Act.put, List.setIfInBounds_toArray, List.set_cons_zero, List.set_cons_succ]; go_big_quiet_on)
          first | go_big_quiet_skip | (go_big_quiet_want; go_big_quiet_op; refine ⟨_, fun W hW => (by have := quietSame hW (l02Is_any g 0 600 W); rw [c2] at this; exact this), ?_⟩; go_big_quiet_on)
          first | go_big_quiet_skip | (go_big_quiet_want; go_big_quiet_op; first | go_big_quiet_on | (refine ⟨_, fun _ _ => rfl, ?_⟩; go_big_quiet_on))
          go_big_quiet_want; go_big_quiet_op; first | go_big_quiet_on | (refine ⟨_, fun _ _ => rfl, ?_⟩; go_big_quiet_on)
          go_big_quiet_want; go_big_quiet_op; first | go_big_quiet_on | (refine ⟨_, fun _ _ => rfl, ?_⟩; go_big_quiet_on)
          first | go_big_quiet_skip | (go_big_quiet_want; go_big_quiet_op; first | go_big_quiet_on | (refine ⟨_, fun _ _ => rfl, ?_⟩; go_big_quiet_on))
          first | go_big_quiet_skip | (go_big_quiet_want; go_big_quiet_op; first | go_big_quiet_on | (refine ⟨_, fun _ _ => rfl, ?_⟩; go_big_quiet_on))
          first | go_big_quiet_skip | (go_big_quiet_want; go_big_quiet_op; first | go_big_quiet_on | (refine ⟨_, fun _ _ => rfl, ?_⟩; go_big_quiet_on))
          first | go_big_quiet_skip | (go_big_quiet_want; go_big_quiet_op; first | go_big_quiet_on | (refine ⟨_, fun _ _ => rfl, ?_⟩; go_big_quiet_on))
          first | go_big_quiet_skip | (go_big_quiet_want; go_big_quiet_op; first | go_big_quiet_on | (refine ⟨_, fun _ _ => rfl, ?_⟩; go_big_quiet_on))
          first | go_big_quiet_skip | (go_big_quiet_want; go_big_quiet_op; first | go_big_quiet_on | (refine ⟨_, fun _ _ => rfl, ?_⟩; go_big_quiet_on))
          first | go_big_quiet_skip | (go_big_quiet_want; go_big_quiet_op; first | go_big_quiet_on | (refine ⟨_, fun _ _ => rfl, ?_⟩; go_big_quiet_on))
          first | go_big_quiet_skip | (go_big_quiet_want; go_big_quiet_op; first | go_big_quiet_on | (refine ⟨_, fun _ _ => rfl, ?_⟩; go_big_quiet_on))
          first | go_big_quiet_skip | (go_big_quiet_want; refine ⟨.agg #[.int .i64 m0, .int .i64 m1, .int .i64 m2, .int .i64 m3, .int .i64 m4, .int .i64 m5, .int .i64 m6, .bool m7], fun W hW => (quietLoadCells 33 (.tmp 47) rfl B (o + q * 10) rfl [.int .i64 m0, .int .i64 m1, .int .i64 m2, .int .i64 m3, .int .i64 m4, .int .i64 m5, .int .i64 m6, .bool m7] (fun j v hv => (hW.cell (p := ⟨B, o + q * 10 + j, none⟩) lB).trans (HCm.out j v hv)) _ Try.underlying33 rfl (by kernel_rfl)), ?_⟩; simp only [Act.put, List.setIfInBounds_toArray, List.set_cons_zero, List.set_cons_succ]; go_big_quiet_on)
          first | go_big_quiet_skip | (go_big_quiet_want; go_big_quiet_op; first | go_big_quiet_on | (refine ⟨_, fun _ _ => rfl, ?_⟩; go_big_quiet_on))
          first | go_big_quiet_skip | (go_big_quiet_want; go_big_quiet_op; first | go_big_quiet_on | (refine ⟨_, fun _ _ => rfl, ?_⟩; go_big_quiet_on))
          first | go_big_quiet_skip | (go_big_quiet_want; go_big_quiet_op; first | go_big_quiet_on | (refine ⟨_, fun _ _ => rfl, ?_⟩; go_big_quiet_on))
          first | go_big_quiet_skip | (go_big_quiet_want; go_big_quiet_op; first | go_big_quiet_on | (refine ⟨_, fun _ _ => rfl, ?_⟩; go_big_quiet_on))
          first | go_big_quiet_skip | (go_big_quiet_want; refine ⟨.agg #[.int .i64 n0, .int .i64 n1, .int .i64 n2, .int .i64 n3, .int .i64 n4, .int .i64 n5, .int .i64 n6, .bool n7], fun W hW => (quietLoadCells 33 (.tmp 52) rfl B (o + k * 10) rfl [.int .i64 n0, .int .i64 n1, .int .i64 n2, .int .i64 n3, .int .i64 n4, .int .i64 n5, .int .i64 n6, .bool n7] (fun j v hv => (hW.cell (p := ⟨B, o + k * 10 + j, none⟩) lB).trans (HCn.out j v hv)) _ Try.underlying33 rfl (by kernel_rfl)), ?_⟩; simp only [Act.put, List.setIfInBounds_toArray, List.set_cons_zero, List.set_cons_succ]; go_big_quiet_on)
          first | go_big_quiet_skip | (go_big_quiet_want; go_big_quiet_op; refine ⟨_, fun W hW => quietCall hW (HLs W).out, ?_⟩; go_big_quiet_on)
          first | go_big_quiet_skip | (go_big_quiet_want; go_big_quiet_op; first | go_big_quiet_on | (refine ⟨_, fun _ _ => rfl, ?_⟩; go_big_quiet_on))
          first | go_big_quiet_skip | (go_big_quiet_want; go_big_quiet_op; first | go_big_quiet_on | (refine ⟨_, fun _ _ => rfl, ?_⟩; go_big_quiet_on))
          go_big_quiet_want; go_big_quiet_op; first | go_big_quiet_on | (refine ⟨_, fun _ _ => rfl, ?_⟩; go_big_quiet_on)
          refine wpQuiet_nil ?_
          intro wx hx
          go_wp2_with fail
          have HB2 := Lib.hid (hb.trans (hx.mono hb.size))
          have HCk := Lib.hid (show wr.cell? ⟨B, o + k * 10 + 8, none⟩ = some (.int .i64 ad) from HCa.out)
          have HX2 := Lib.hid hx
          clear hx
          go_loopw [4] (fun i wz => ∃ m : Nat, i = .int .i64 (m : Int) ∧ m ≤ k ∧ (∀ t, t < m → (!((dvAt l t).ad == ad)) = true) ∧ Below wx.heap.size wx wz) (fun i _ => k - (intOf i).toNat)
          case atStart => exact ⟨0, rfl, by omega, fun j hj => absurd hj (by omega), Below.refl _ _⟩
          case round =>
            obtain ⟨m, rfl, hm, hall, hz⟩ := hrel
            have HM := Lib.hid hall
            clear hall
            rename World => wz
            by_cases hmk : m < k
            · have hj1 : (0 : Int) ≤ (m : Int) := by omega
              have hj2 : (m : Int) < (N : Int) := by omega
              have hj3 : (m : Int) < (k : Int) := by omega
              have hz2 := HB2.out.trans (hz.mono HB2.out.size)
              have lz : B < wz.heap.size := Nat.lt_of_lt_of_le hlt hz2.size
              have HD := Lib.hid (show wz.cell? ⟨B, o + m * 10 + 8, none⟩ = some (.int .i64 (dvAt l m).ad) from (hz2.cell (p := ⟨B, _, none⟩) hlt).trans (HCw.out m _ (dvAt_some (by have := HN.out; omega)) 8 _ rfl))
              have HDk := Lib.hid (show wz.cell? ⟨B, o + k * 10 + 8, none⟩ = some (.int .i64 ad) from ((HX2.out.trans (hz.mono HX2.out.size)).cell (p := ⟨B, _, none⟩) lB).trans HCk.out)
              have HP := Lib.hid (show (dvAt l m).ad = (dvAt l m).ad from rfl)
              go_wp2_with fail
              by_cases had : (dvAt l m).ad = ad
              · have hv := Lib.hid (HNo.out (by rw [HE2.out]; exact allR_no hmk (by simp [had])))
                have hab : ((dvAt l m).ad == ad) = true := by simp [had]
                clear had HP
                generalize (dvAt l m).ad = pa at HD hab
                refine wp_region_quiet (C := fun W => Below wz.heap.size wz W) (by kernel_rfl) (by kernel_rfl) (Below.refl _ _).drew ?_
                dsimp only
                try simp only [Act.put, List.setIfInBounds_toArray, List.set_cons_zero, List.set_cons_succ]
                go_big_quiet_want; go_big_quiet_op; first | go_big_quiet_on | (refine ⟨_, fun _ _ => rfl, ?_⟩; go_big_quiet_on)
                go_big_quiet_want; go_big_quiet_op; first | go_big_quiet_on | (refine ⟨_, fun _ _ => rfl, ?_⟩; go_big_quiet_on)
                go_big_quiet_want; go_big_quiet_op; first | go_big_quiet_on | (refine ⟨_, fun _ _ => rfl, ?_⟩; go_big_quiet_on)
                go_big_quiet_want; go_big_quiet_op; first | go_big_quiet_on | (refine ⟨_, fun _ _ => rfl, ?_⟩; go_big_quiet_on)
                go_big_quiet_want; refine ⟨.int .i64 pa, fun W hW => (quietLoadOne 2 (.tmp 66) rfl B (o + m * 10 + 8) rfl (.int .i64 pa) ((hW.cell (p := ⟨B, o + m * 10 + 8, none⟩) lz).trans HD.out) _ Try.underlying2 rfl), ?_⟩; simp only [Act.put, List.setIfInBounds_toArray, List.set_cons_zero, List.set_cons_succ]; go_big_quiet_on
                go_big_quiet_want; go_big_quiet_op; first | go_big_quiet_on | (refine ⟨_, fun _ _ => rfl, ?_⟩; go_big_quiet_on)
                go_big_quiet_want; go_big_quiet_op; first | go_big_quiet_on | (refine ⟨_, fun _ _ => rfl, ?_⟩; go_big_quiet_on)
                go_big_quiet_want; go_big_quiet_op; first | go_big_quiet_on | (refine ⟨_, fun _ _ => rfl, ?_⟩; go_big_quiet_on)
                go_big_quiet_want; go_big_quiet_op; first | go_big_quiet_on | (refine ⟨_, fun _ _ => rfl, ?_⟩; go_big_quiet_on)
                go_big_quiet_want; refine ⟨.int .i64 ad, fun W hW => (quietLoadOne 2 (.tmp 71) rfl B (o + k * 10 + 8) rfl (.int .i64 ad) ((hW.cell (p := ⟨B, o + k * 10 + 8, none⟩) lz).trans HDk.out) _ Try.underlying2 rfl), ?_⟩; simp only [Act.put, List.setIfInBounds_toArray, List.set_cons_zero, List.set_cons_succ]; go_big_quiet_on
                go_big_quiet_want; go_big_quiet_op; first | go_big_quiet_on | (refine ⟨_, fun _ _ => rfl, ?_⟩; go_big_quiet_on)
                refine wpQuiet_nil ?_
                intro X hX
                go_wp2_with fail
                go_ret
                exact ⟨by rw [hv.out]; rfl, hz2.trans (hX.mono hz2.size)⟩
              · have HT := Lib.hid (show (!((dvAt l m).ad == ad)) = true by simp [had])
                have hab : ((dvAt l m).ad == ad) = false := by simp [had]
                clear had HP
                generalize (dvAt l m).ad = pa at HD hab
                refine wp_region_quiet (C := fun W => Below wz.heap.size wz W) (by kernel_rfl) (by kernel_rfl) (Below.refl _ _).drew ?_
                dsimp only
                try simp only [Act.put, List.setIfInBounds_toArray, List.set_cons_zero, List.set_cons_succ]
                go_big_quiet_want; go_big_quiet_op; first | go_big_quiet_on | (refine ⟨_, fun _ _ => rfl, ?_⟩; go_big_quiet_on)
                go_big_quiet_want; go_big_quiet_op; first | go_big_quiet_on | (refine ⟨_, fun _ _ => rfl, ?_⟩; go_big_quiet_on)
                go_big_quiet_want; go_big_quiet_op; first | go_big_quiet_on | (refine ⟨_, fun _ _ => rfl, ?_⟩; go_big_quiet_on)
                go_big_quiet_want; go_big_quiet_op; first | go_big_quiet_on | (refine ⟨_, fun _ _ => rfl, ?_⟩; go_big_quiet_on)
                go_big_quiet_want; refine ⟨.int .i64 pa, fun W hW => (quietLoadOne 2 (.tmp 66) rfl B (o + m * 10 + 8) rfl (.int .i64 pa) ((hW.cell (p := ⟨B, o + m * 10 + 8, none⟩) lz).trans HD.out) _ Try.underlying2 rfl), ?_⟩; simp only [Act.put, List.setIfInBounds_toArray, List.set_cons_zero, List.set_cons_succ]; go_big_quiet_on
                go_big_quiet_want; go_big_quiet_op; first | go_big_quiet_on | (refine ⟨_, fun _ _ => rfl, ?_⟩; go_big_quiet_on)
                go_big_quiet_want; go_big_quiet_op; first | go_big_quiet_on | (refine ⟨_, fun _ _ => rfl, ?_⟩; go_big_quiet_on)
                go_big_quiet_want; go_big_quiet_op; first | go_big_quiet_on | (refine ⟨_, fun _ _ => rfl, ?_⟩; go_big_quiet_on)
                go_big_quiet_want; go_big_quiet_op; first | go_big_quiet_on | (refine ⟨_, fun _ _ => rfl, ?_⟩; go_big_quiet_on)
                go_big_quiet_want; refine ⟨.int .i64 ad, fun W hW => (quietLoadOne 2 (.tmp 71) rfl B (o + k * 10 + 8) rfl (.int .i64 ad) ((hW.cell (p := ⟨B, o + k * 10 + 8, none⟩) lz).trans HDk.out) _ Try.underlying2 rfl), ?_⟩; simp only [Act.put, List.setIfInBounds_toArray, List.set_cons_zero, List.set_cons_succ]; go_big_quiet_on
                go_big_quiet_want; go_big_quiet_op; first | go_big_quiet_on | (refine ⟨_, fun _ _ => rfl, ?_⟩; go_big_quiet_on)
                refine wpQuiet_nil ?_
                intro X hX
                go_wp2_with fail
                go_roundw
                case rel => exact ⟨m + 1, by go_num, by omega, fun j hj => (Nat.lt_or_ge j m).elim (HM.out j) (fun g => (show j = m by omega) ▸ HT.out), hz.trans (hX.mono hz.size)⟩
                case measure => simp [intOf]; omega
            · have hj3 : ¬ (m : Int) < (k : Int) := by omega
              have hmf : decide (m < k) = false := decide_eq_false (by omega)
              have hmf2 : decide ((m : Int) < (k : Int)) = false := decide_eq_false (by omega)
              have HT := Lib.hid (show dvsAt l k = true by rw [HE2.out]; exact allR_yes (fun t ht => HM.out t (by omega)))
              have hz2 := HB2.out.trans (hz.mono HB2.out.size)
              go_wp2_with fail
              go_roundw
              case rel => exact ⟨k + 1, by go_num, by omega, fun j hj => (Nat.lt_or_ge j k).elim (HA.out j) (fun g => (show j = k by omega) ▸ HT.out), hz2⟩
              case measure => simp [intOf]; omega
    · have hv := Lib.hid (HVy.out (by have := HN.out; omega) (fun i hi => HA.out i (by have := HN.out; omega)))
      go_wp2_with fail
      go_ret
      exact ⟨by rw [hv.out]; rfl, hb⟩
end Go.Proofs.Ytpolpkheaibonaa
/- Whether a Node is right: the program's. Nothing that was there is written. -/
namespace Go.Proofs.Ytpolpkheaibonaa
open Go.RowKit
set_option linter.unusedVariables false

/-- A Node is right. -/
def ndB (x : Nd) : Bool := clB x.c && (qRightB x.q && (tabB x.t && (dvsB x.d && (decide (x.g.length ≤ 8) && (inB 0 7 x.s && allR (fun i => gtB (gtAt x.g i)) x.g.length)))))
/-- What is said of a Node's numbers and texts. -/
def NdOk (x : Nd) : Prop := CansOk x.q ∧ SesOk x.t ∧ (∀ i, i < x.g.length → (gtAt x.g i).dt.size ≤ maxLen)
set_option maxRecDepth 100000 in
set_option maxHeartbeats 16000000 in
theorem implNodeRight_any (x : Nd) (a1 a2 a3 a4 a5 : Option Addr) (c1 c2 c3 c4 c5 : Nat) (w : World) (h : NdIn w a1 a2 a3 a4 a5 x) (hok : NdOk x) (hs : NdSmall x) (hc4 : x.d.length ≤ c4) :
    Calls Try.prog 30 #[ndV x a1 a2 a3 a4 a5 c1 c2 c3 c4 c5] w fun e w' => e = .returned (.bool (ndB x)) ∧ Below w.heap.size w w' := by
  have HSm := hs
  unfold NdSmall at hs
  unfold NdOk at hok
  have HB := Lib.hid (show ndB x = (clB x.c && (qRightB x.q && (tabB x.t && (dvsB x.d && (decide (x.g.length ≤ 8) && (inB 0 7 x.s && allR (fun i => gtB (gtAt x.g i)) x.g.length)))))) from rfl)
  generalize ndB x = RES at *
  obtain ⟨⟨⟨n0, n1, n2, n3, n4, n5, n6, n7⟩, ad, st, lf, tk⟩, q, t, d, g, sq⟩ := x
  obtain ⟨i1, i2, i3, i4, i5⟩ := h
  obtain ⟨s1, s2, ⟨s3, -⟩, s4, s5, -⟩ := hs
  obtain ⟨o1, o2, o3⟩ := hok
  unfold ndV
  dsimp only at *
  have HI1 := Lib.hid i1
  have HI2 := Lib.hid i2
  have HI3 := Lib.hid i3
  have HI4 := Lib.hid i4
  have HI5 := Lib.hid i5
  have HO := Lib.hid o3
  have HC1 := fun W h => Lib.hid (implClaimRight_any ⟨n0, n1, n2, n3, n4, n5, n6, n7⟩ ad st lf a1 c1 tk W h s1)
  have HC2 := fun W h => Lib.hid (implQueueRight_any a2 c2 q W h o1 s2)
  have HC3 := fun W h => Lib.hid (implTable_any a3 c3 t W h o2 (by unfold maxLen; omega))
  have HC4 := fun W h => Lib.hid (implDevicesRight_any a4 c4 d W h (by unfold maxLen; omega) hc4)
  unfold clV at HC1
  dsimp only at HC1
  clear i1 i2 i3 i4 i5 s1 s2 s3 s4 o1 o2 o3 HSm
  generalize clB ⟨⟨n0, n1, n2, n3, n4, n5, n6, n7⟩, ad, st, lf, tk⟩ = V1 at *
  generalize qRightB q = V2 at *
  generalize tabB t = V3 at *
  generalize dvsB d = V4 at *
  generalize eN1 : tk.length = N1 at *
  generalize eN2 : q.length = N2 at *
  generalize eN3 : t.length = N3 at *
  generalize eN4 : d.length = N4 at *
  obtain ⟨N5, eN5⟩ : ∃ N, g.length = N := ⟨_, rfl⟩
  have HN := Lib.hid eN5
  rw [eN5] at s5 HB ⊢
  clear eN1 eN2 eN3 eN4 eN5
  go_enter Try.func30, Try.ntmps30
  go_wp2_with (first
    | (refine wpList_box_h rfl 66 (.tmp 0) rfl #[.int .i64 n0, .int .i64 n1, .int .i64 n2, .int .i64 n3, .int .i64 n4, .int .i64 n5, .int .i64 n6, .bool n7, .int .i64 ad, .int .i64 st, .int .i64 lf, .slice a1 N1 c1, .slice a2 N2 c2, .slice a3 N3 c3, .slice a4 N4 c4, .slice a5 N5 c5, .int .i64 sq] rfl ?_; intro w1 R1 e1 g1 b1; have HL1 := Lib.hid (show Lg w w1 [(R1, #[.int .i64 n0, .int .i64 n1, .int .i64 n2, .int .i64 n3, .int .i64 n4, .int .i64 n5, .int .i64 n6, .bool n7, .int .i64 ad, .int .i64 st, .int .i64 lf, .slice a1 N1 c1, .slice a2 N2 c2, .slice a3 N3 c3, .slice a4 N4 c4, .slice a5 N5 c5, .int .i64 sq], 66)] [] from (Lg.first w).box e1 g1 b1); clear g1 b1 e1)
    | (refine wpList_load_at rfl 60 (.tmp 5) rfl (R1) 0 rfl 66 #[.int .i64 n0, .int .i64 n1, .int .i64 n2, .int .i64 n3, .int .i64 n4, .int .i64 n5, .int .i64 n6, .bool n7, .int .i64 ad, .int .i64 st, .int .i64 lf, .slice a1 N1 c1, .slice a2 N2 c2, .slice a3 N3 c3, .slice a4 N4 c4, .slice a5 N5 c5, .int .i64 sq] (0, 0) (HL1.out.get (.head _)) [.int .i64 n0, .int .i64 n1, .int .i64 n2, .int .i64 n3, .int .i64 n4, .int .i64 n5, .int .i64 n6, .bool n7, .int .i64 ad, .int .i64 st, .int .i64 lf, .slice a1 N1 c1] rfl _ Try.underlying60 rfl (by kernel_rfl) ?_))
  refine ((HC1 _ (HI1.out.kept HL1.out.below)).out).mono ?_
  rintro e w2 ⟨rfl, h⟩
  have HL2 := Lib.hid (show Lg w w2 [(R1, #[.int .i64 n0, .int .i64 n1, .int .i64 n2, .int .i64 n3, .int .i64 n4, .int .i64 n5, .int .i64 n6, .bool n7, .int .i64 ad, .int .i64 st, .int .i64 lf, .slice a1 N1 c1, .slice a2 N2 c2, .slice a3 N3 c3, .slice a4 N4 c4, .slice a5 N5 c5, .int .i64 sq], 66)] [] from HL1.out.kept h)
  clear h
  rcases V1 with _ | _
  · skip
    have hres : RES = false := by rw [HB.out]; rfl
    go_wp2_with fail
    go_ret
    exact ⟨by rw [hres]; rfl, HL2.out.below⟩
  go_wp2_with (first
    | (refine wpList_load_at (by kernel_rfl) 63 (.tmp 10) rfl (R1) 12 rfl 66 #[.int .i64 n0, .int .i64 n1, .int .i64 n2, .int .i64 n3, .int .i64 n4, .int .i64 n5, .int .i64 n6, .bool n7, .int .i64 ad, .int .i64 st, .int .i64 lf, .slice a1 N1 c1, .slice a2 N2 c2, .slice a3 N3 c3, .slice a4 N4 c4, .slice a5 N5 c5, .int .i64 sq] (0, 0) (HL2.out.get (.head _)) [.slice a2 N2 c2] rfl _ Try.underlying63 rfl (by kernel_rfl) ?_))
  refine ((HC2 _ (HI2.out.kept HL2.out.below)).out).mono ?_
  rintro e w3 ⟨rfl, h⟩
  have HL3 := Lib.hid (show Lg w w3 [(R1, #[.int .i64 n0, .int .i64 n1, .int .i64 n2, .int .i64 n3, .int .i64 n4, .int .i64 n5, .int .i64 n6, .bool n7, .int .i64 ad, .int .i64 st, .int .i64 lf, .slice a1 N1 c1, .slice a2 N2 c2, .slice a3 N3 c3, .slice a4 N4 c4, .slice a5 N5 c5, .int .i64 sq], 66)] [] from HL2.out.kept h)
  clear h
  rcases V2 with _ | _
  · skip
    have hres : RES = false := by rw [HB.out]; rfl
    go_wp2_with fail
    go_ret
    exact ⟨by rw [hres]; rfl, HL3.out.below⟩
  go_wp2_with (first
    | (refine wpList_load_one (by kernel_rfl) 38 (.tmp 16) rfl (R1) 13 rfl 66 #[.int .i64 n0, .int .i64 n1, .int .i64 n2, .int .i64 n3, .int .i64 n4, .int .i64 n5, .int .i64 n6, .bool n7, .int .i64 ad, .int .i64 st, .int .i64 lf, .slice a1 N1 c1, .slice a2 N2 c2, .slice a3 N3 c3, .slice a4 N4 c4, .slice a5 N5 c5, .int .i64 sq] (0, 0) (HL3.out.get (.head _)) (.slice a3 N3 c3) rfl _ Try.underlying38 rfl (by kernel_rfl) ?_))
  refine ((HC3 _ (HI3.out.kept HL3.out.below)).out).mono ?_
  rintro e w4 ⟨rfl, h⟩
  have HL4 := Lib.hid (show Lg w w4 [(R1, #[.int .i64 n0, .int .i64 n1, .int .i64 n2, .int .i64 n3, .int .i64 n4, .int .i64 n5, .int .i64 n6, .bool n7, .int .i64 ad, .int .i64 st, .int .i64 lf, .slice a1 N1 c1, .slice a2 N2 c2, .slice a3 N3 c3, .slice a4 N4 c4, .slice a5 N5 c5, .int .i64 sq], 66)] [] from HL3.out.kept h)
  clear h
  rcases V3 with _ | _
  · skip
    have hres : RES = false := by rw [HB.out]; rfl
    go_wp2_with fail
    go_ret
    exact ⟨by rw [hres]; rfl, HL4.out.below⟩
  go_wp2_with (first
    | (refine wpList_load_one (by kernel_rfl) 24 (.tmp 22) rfl (R1) 14 rfl 66 #[.int .i64 n0, .int .i64 n1, .int .i64 n2, .int .i64 n3, .int .i64 n4, .int .i64 n5, .int .i64 n6, .bool n7, .int .i64 ad, .int .i64 st, .int .i64 lf, .slice a1 N1 c1, .slice a2 N2 c2, .slice a3 N3 c3, .slice a4 N4 c4, .slice a5 N5 c5, .int .i64 sq] (0, 0) (HL4.out.get (.head _)) (.slice a4 N4 c4) rfl _ Try.underlying24 rfl (by kernel_rfl) ?_))
  refine ((HC4 _ (HI4.out.kept HL4.out.below)).out).mono ?_
  rintro e w5 ⟨rfl, h⟩
  have HL5 := Lib.hid (show Lg w w5 [(R1, #[.int .i64 n0, .int .i64 n1, .int .i64 n2, .int .i64 n3, .int .i64 n4, .int .i64 n5, .int .i64 n6, .bool n7, .int .i64 ad, .int .i64 st, .int .i64 lf, .slice a1 N1 c1, .slice a2 N2 c2, .slice a3 N3 c3, .slice a4 N4 c4, .slice a5 N5 c5, .int .i64 sq], 66)] [] from HL4.out.kept h)
  clear h
  rcases V4 with _ | _
  · skip
    have hres : RES = false := by rw [HB.out]; rfl
    go_wp2_with fail
    go_ret
    exact ⟨by rw [hres]; rfl, HL5.out.below⟩
  by_cases g8 : 8 < N5
  · have hd : decide ((8 : Int) < (N5 : Int)) = true := decide_eq_true (by omega)
    have hq : decide (N5 ≤ 8) = false := decide_eq_false (by omega)
    have hres : RES = false := by rw [HB.out, hq]; rfl
    go_wp2_with (first
      | (refine wpList_load_one (by kernel_rfl) 64 (.tmp 27) rfl (R1) 15 rfl 66 #[.int .i64 n0, .int .i64 n1, .int .i64 n2, .int .i64 n3, .int .i64 n4, .int .i64 n5, .int .i64 n6, .bool n7, .int .i64 ad, .int .i64 st, .int .i64 lf, .slice a1 N1 c1, .slice a2 N2 c2, .slice a3 N3 c3, .slice a4 N4 c4, .slice a5 N5 c5, .int .i64 sq] (0, 0) (HL5.out.get (.head _)) (.slice a5 N5 c5) rfl _ Try.underlying64 rfl (by kernel_rfl) ?_))
    go_ret
    exact ⟨by rw [hres]; rfl, HL5.out.below⟩
  have hd : decide ((8 : Int) < (N5 : Int)) = false := decide_eq_false (by omega)
  have hq8 : decide (N5 ≤ 8) = true := decide_eq_true (by omega)
  go_wp2_with (first
    | (refine wpList_load_one (by kernel_rfl) 64 (.tmp 27) rfl (R1) 15 rfl 66 #[.int .i64 n0, .int .i64 n1, .int .i64 n2, .int .i64 n3, .int .i64 n4, .int .i64 n5, .int .i64 n6, .bool n7, .int .i64 ad, .int .i64 st, .int .i64 lf, .slice a1 N1 c1, .slice a2 N2 c2, .slice a3 N3 c3, .slice a4 N4 c4, .slice a5 N5 c5, .int .i64 sq] (0, 0) (HL5.out.get (.head _)) (.slice a5 N5 c5) rfl _ Try.underlying64 rfl (by kernel_rfl) ?_)
    | (refine wpList_load_one (by kernel_rfl) 2 (.tmp 32) rfl (R1) 16 rfl 66 #[.int .i64 n0, .int .i64 n1, .int .i64 n2, .int .i64 n3, .int .i64 n4, .int .i64 n5, .int .i64 n6, .bool n7, .int .i64 ad, .int .i64 st, .int .i64 lf, .slice a1 N1 c1, .slice a2 N2 c2, .slice a3 N3 c3, .slice a4 N4 c4, .slice a5 N5 c5, .int .i64 sq] (0, 0) (HL5.out.get (.head _)) (.int .i64 sq) rfl _ Try.underlying2 rfl (by kernel_rfl) ?_))
  refine (from0_any sq 7 _).mono ?_
  rintro e w' ⟨rfl, rfl⟩
  rcases hi : inB 0 7 sq with _ | _
  · have hres : RES = false := by rw [HB.out, hq8, hi]; rfl
    go_wp2_with fail
    go_ret
    exact ⟨by rw [hres]; rfl, HL5.out.below⟩
  have HB2 := Lib.hid (show RES = allR (fun i => gtB (gtAt g i)) N5 from by rw [HB.out, hq8, hi]; rfl)
  clear HB hi
  go_wp2_with (first
    | (refine wpList_load_one (by kernel_rfl) 64 (.tmp 37) rfl (R1) 15 rfl 66 #[.int .i64 n0, .int .i64 n1, .int .i64 n2, .int .i64 n3, .int .i64 n4, .int .i64 n5, .int .i64 n6, .bool n7, .int .i64 ad, .int .i64 st, .int .i64 lf, .slice a1 N1 c1, .slice a2 N2 c2, .slice a3 N3 c3, .slice a4 N4 c4, .slice a5 N5 c5, .int .i64 sq] (0, 0) (HL5.out.get (.head _)) (.slice a5 N5 c5) rfl _ Try.underlying64 rfl (by kernel_rfl) ?_))
  have HI := Lib.hid (HI5.out.kept HL5.out.below)
  have HLL := Lib.hid HL5.out
  go_loopw [4, 40] (fun _ i wr => ∃ k : Nat, i = .int .i64 (k : Int) ∧ k ≤ N5 ∧ (∀ j, j < k → gtB (gtAt g j) = true) ∧ Below w5.heap.size w5 wr) (fun _ i _ => N5 - (intOf i).toNat)
  case atStart => exact ⟨0, rfl, by omega, fun j hj => absurd hj (by omega), Below.refl _ _⟩
  case round =>
    obtain ⟨k, rfl, hk, hall, hb⟩ := hrel
    have HA := Lib.hid hall
    clear hall
    by_cases hkn : k < N5
    · have hkl : k < g.length := by have := HN.out; omega
      have hi1 : (0 : Int) ≤ (k : Int) := by omega
      have hi2 : (k : Int) < (N5 : Int) := by omega
      obtain ⟨b, o, rfl, hlt, hc⟩ := HI.out.at (by omega)
      have HCs := Lib.hid (fun j v hv => (hb.cell (p := ⟨b, _, none⟩) hlt).trans (hc k _ (gtAt_some hkl) j v hv))
      have HGR := fun W => Lib.hid (gotRight_any (gtAt g k) W (HO.out k hkl))
      have HXt := Lib.hid (show gtB (gtAt g k) = true → ∀ j, j < k + 1 → gtB (gtAt g j) = true from fun h j hj => (Nat.lt_or_ge j k).elim (HA.out j) (fun q => (show j = k by omega) ▸ h))
      have HXf := Lib.hid (show gtB (gtAt g k) = false → RES = false from fun h => by rw [HB2.out]; exact allR_no hkn h)
      clear hc
      generalize gtB (gtAt g k) = GB at *
      generalize gtAt g k = x at *
      obtain ⟨s, p, dt⟩ := x
      unfold gtL at HCs HGR
      dsimp only at *
      go_wp2_with (first
        | (refine wpList_load_cells rfl 120 (.tmp 42) rfl b (o + k * 3) rfl [.int .i64 s, .int .i64 p, .string dt] HCs.out _ Try.underlying120 rfl (by kernel_rfl) ?_)
        | (refine wpList_alloc_h rfl 120 rfl (.agg #[.int .i64 0, .int .i64 0, .string ByteArray.empty]) (by kernel_rfl) #[.int .i64 0, .int .i64 0, .string ByteArray.empty] rfl ?_; intro v1 SR1 e1 g1 b1; have HM1 := Lib.hid (show Lg wr v1 [(SR1, #[.int .i64 0, .int .i64 0, .string ByteArray.empty], 120)] [] from (Lg.first wr).box e1 g1 b1); clear g1 b1 e1)
        | (refine wpList_put_at rfl 120 (.tmp 4) (.tmp 43) rfl rfl (SR1) 0 rfl (.agg #[.int .i64 s, .int .i64 p, .string dt]) rfl #[.int .i64 s, .int .i64 p, .string dt] rfl 120 #[.int .i64 0, .int .i64 0, .string ByteArray.empty] #[.int .i64 s, .int .i64 p, .string dt] (HM1.out.get (.head _)) (by kernel_rfl) (by kernel_rfl) (by kernel_rfl) (by kernel_rfl) ?_; intro v2 g2 o2; have HM2 := Lib.hid (show Lg wr v2 [(SR1, #[.int .i64 s, .int .i64 p, .string dt], 120)] [] from HM1.out.put 0 rfl g2 o2 (fun _ h => nomatch h) (fun _ h => nomatch h) rfl); clear g2 o2)
        | (refine wpList_load_at rfl 120 (.tmp 4) rfl (SR1) 0 rfl 120 #[.int .i64 s, .int .i64 p, .string dt] (0, 0) (HM2.out.get (.head _)) [.int .i64 s, .int .i64 p, .string dt] rfl _ Try.underlying120 rfl (by kernel_rfl) ?_))
      refine ((HGR _).out).mono ?_
      rintro e v3 ⟨rfl, h⟩
      have HM3 := Lib.hid (show Lg wr v3 [(SR1, #[.int .i64 s, .int .i64 p, .string dt], 120)] [] from HM2.out.kept h)
      clear h
      rcases GB with _ | _
      · have hres := HXf.out rfl
        go_wp2_with fail
        go_ret
        exact ⟨by rw [hres]; rfl, HLL.out.below.trans ((hb.trans (HM3.out.below.mono hb.size)).mono HLL.out.below.size)⟩
      have hal := Lib.hid (HXt.out rfl)
      go_wp2_with fail
      go_roundw
      case rel => exact ⟨k + 1, by go_num, by omega, hal.out, hb.trans (HM3.out.below.mono hb.size)⟩
      case measure => simp [intOf]; omega
    · have hres : RES = true := by rw [HB2.out]; exact allR_yes (fun i hi => HA.out i (by omega))
      go_wp2_with fail
      go_ret
      exact ⟨by rw [hres]; rfl, HLL.out.below.trans (hb.mono HLL.out.below.size)⟩
end Go.Proofs.Ytpolpkheaibonaa
/- Whether a Node is right: the model's. Nothing that was there is written. -/
namespace Go.Proofs.Ytpolpkheaibonaa
open Go.RowKit
set_option linter.unusedVariables false

set_option maxRecDepth 100000 in
set_option maxHeartbeats 16000000 in
theorem specNodeRight_any (x : Nd) (a1 a2 a3 a4 a5 : Option Addr) (c1 c2 c3 c4 c5 : Nat) (w : World) (h : NdIn w a1 a2 a3 a4 a5 x) (hok : NdOk x) (hs : NdSmall x) :
    Calls Try.prog 28 #[ndV x a1 a2 a3 a4 a5 c1 c2 c3 c4 c5] w fun e w' => e = .returned (.bool (ndB x)) ∧ Below w.heap.size w w' := by
  have HSm := hs
  unfold NdSmall at hs
  unfold NdOk at hok
  have HB := Lib.hid (show ndB x = (clB x.c && (qRightB x.q && (tabB x.t && (dvsB x.d && (decide (x.g.length ≤ 8) && (inB 0 7 x.s && allR (fun i => gtB (gtAt x.g i)) x.g.length)))))) from rfl)
  generalize ndB x = RES at *
  obtain ⟨⟨⟨n0, n1, n2, n3, n4, n5, n6, n7⟩, ad, st, lf, tk⟩, q, t, d, g, sq⟩ := x
  obtain ⟨i1, i2, i3, i4, i5⟩ := h
  obtain ⟨s1, s2, ⟨s3, -⟩, s4, s5, -⟩ := hs
  obtain ⟨o1, o2, o3⟩ := hok
  unfold ndV
  dsimp only at *
  have HI1 := Lib.hid i1
  have HI2 := Lib.hid i2
  have HI3 := Lib.hid i3
  have HI4 := Lib.hid i4
  have HI5 := Lib.hid i5
  have HO := Lib.hid o3
  have HC1 := fun W h => Lib.hid (specClaimRight_any ⟨n0, n1, n2, n3, n4, n5, n6, n7⟩ ad st lf a1 c1 tk W h s1)
  have HC2 := fun W h => Lib.hid (specQueueRight_any a2 c2 q W h o1 s2)
  have HC3 := fun W h => Lib.hid (specTable_any a3 c3 t W h o2 (by unfold maxLen; omega))
  have HC4 := fun W h => Lib.hid (specDevicesRight_any a4 c4 d W h (by unfold maxLen; omega))
  unfold clV at HC1
  dsimp only at HC1
  clear i1 i2 i3 i4 i5 s1 s2 s3 s4 o1 o2 o3 HSm
  generalize clB ⟨⟨n0, n1, n2, n3, n4, n5, n6, n7⟩, ad, st, lf, tk⟩ = V1 at *
  generalize qRightB q = V2 at *
  generalize tabB t = V3 at *
  generalize dvsB d = V4 at *
  generalize eN1 : tk.length = N1 at *
  generalize eN2 : q.length = N2 at *
  generalize eN3 : t.length = N3 at *
  generalize eN4 : d.length = N4 at *
  obtain ⟨N5, eN5⟩ : ∃ N, g.length = N := ⟨_, rfl⟩
  have HN := Lib.hid eN5
  rw [eN5] at s5 HB ⊢
  clear eN1 eN2 eN3 eN4 eN5
  go_enter Try.func28, Try.ntmps28
  go_wp2_with (first
    | (refine wpList_box_h rfl 66 (.tmp 0) rfl #[.int .i64 n0, .int .i64 n1, .int .i64 n2, .int .i64 n3, .int .i64 n4, .int .i64 n5, .int .i64 n6, .bool n7, .int .i64 ad, .int .i64 st, .int .i64 lf, .slice a1 N1 c1, .slice a2 N2 c2, .slice a3 N3 c3, .slice a4 N4 c4, .slice a5 N5 c5, .int .i64 sq] rfl ?_; intro w1 R1 e1 g1 b1; have HL1 := Lib.hid (show Lg w w1 [(R1, #[.int .i64 n0, .int .i64 n1, .int .i64 n2, .int .i64 n3, .int .i64 n4, .int .i64 n5, .int .i64 n6, .bool n7, .int .i64 ad, .int .i64 st, .int .i64 lf, .slice a1 N1 c1, .slice a2 N2 c2, .slice a3 N3 c3, .slice a4 N4 c4, .slice a5 N5 c5, .int .i64 sq], 66)] [] from (Lg.first w).box e1 g1 b1); clear g1 b1 e1)
    | (refine wpList_load_at rfl 60 (.tmp 5) rfl (R1) 0 rfl 66 #[.int .i64 n0, .int .i64 n1, .int .i64 n2, .int .i64 n3, .int .i64 n4, .int .i64 n5, .int .i64 n6, .bool n7, .int .i64 ad, .int .i64 st, .int .i64 lf, .slice a1 N1 c1, .slice a2 N2 c2, .slice a3 N3 c3, .slice a4 N4 c4, .slice a5 N5 c5, .int .i64 sq] (0, 0) (HL1.out.get (.head _)) [.int .i64 n0, .int .i64 n1, .int .i64 n2, .int .i64 n3, .int .i64 n4, .int .i64 n5, .int .i64 n6, .bool n7, .int .i64 ad, .int .i64 st, .int .i64 lf, .slice a1 N1 c1] rfl _ Try.underlying60 rfl (by kernel_rfl) ?_))
  refine ((HC1 _ (HI1.out.kept HL1.out.below)).out).mono ?_
  rintro e w2 ⟨rfl, h⟩
  have HL2 := Lib.hid (show Lg w w2 [(R1, #[.int .i64 n0, .int .i64 n1, .int .i64 n2, .int .i64 n3, .int .i64 n4, .int .i64 n5, .int .i64 n6, .bool n7, .int .i64 ad, .int .i64 st, .int .i64 lf, .slice a1 N1 c1, .slice a2 N2 c2, .slice a3 N3 c3, .slice a4 N4 c4, .slice a5 N5 c5, .int .i64 sq], 66)] [] from HL1.out.kept h)
  clear h
  rcases V1 with _ | _
  · skip
    have hres : RES = false := by rw [HB.out]; rfl
    go_wp2_with fail
    go_ret
    exact ⟨by rw [hres]; rfl, HL2.out.below⟩
  go_wp2_with (first
    | (refine wpList_load_at (by kernel_rfl) 63 (.tmp 10) rfl (R1) 12 rfl 66 #[.int .i64 n0, .int .i64 n1, .int .i64 n2, .int .i64 n3, .int .i64 n4, .int .i64 n5, .int .i64 n6, .bool n7, .int .i64 ad, .int .i64 st, .int .i64 lf, .slice a1 N1 c1, .slice a2 N2 c2, .slice a3 N3 c3, .slice a4 N4 c4, .slice a5 N5 c5, .int .i64 sq] (0, 0) (HL2.out.get (.head _)) [.slice a2 N2 c2] rfl _ Try.underlying63 rfl (by kernel_rfl) ?_))
  refine ((HC2 _ (HI2.out.kept HL2.out.below)).out).mono ?_
  rintro e w3 ⟨rfl, h⟩
  have HL3 := Lib.hid (show Lg w w3 [(R1, #[.int .i64 n0, .int .i64 n1, .int .i64 n2, .int .i64 n3, .int .i64 n4, .int .i64 n5, .int .i64 n6, .bool n7, .int .i64 ad, .int .i64 st, .int .i64 lf, .slice a1 N1 c1, .slice a2 N2 c2, .slice a3 N3 c3, .slice a4 N4 c4, .slice a5 N5 c5, .int .i64 sq], 66)] [] from HL2.out.kept h)
  clear h
  rcases V2 with _ | _
  · skip
    have hres : RES = false := by rw [HB.out]; rfl
    go_wp2_with fail
    go_ret
    exact ⟨by rw [hres]; rfl, HL3.out.below⟩
  go_wp2_with (first
    | (refine wpList_load_one (by kernel_rfl) 38 (.tmp 16) rfl (R1) 13 rfl 66 #[.int .i64 n0, .int .i64 n1, .int .i64 n2, .int .i64 n3, .int .i64 n4, .int .i64 n5, .int .i64 n6, .bool n7, .int .i64 ad, .int .i64 st, .int .i64 lf, .slice a1 N1 c1, .slice a2 N2 c2, .slice a3 N3 c3, .slice a4 N4 c4, .slice a5 N5 c5, .int .i64 sq] (0, 0) (HL3.out.get (.head _)) (.slice a3 N3 c3) rfl _ Try.underlying38 rfl (by kernel_rfl) ?_))
  refine ((HC3 _ (HI3.out.kept HL3.out.below)).out).mono ?_
  rintro e w4 ⟨rfl, h⟩
  have HL4 := Lib.hid (show Lg w w4 [(R1, #[.int .i64 n0, .int .i64 n1, .int .i64 n2, .int .i64 n3, .int .i64 n4, .int .i64 n5, .int .i64 n6, .bool n7, .int .i64 ad, .int .i64 st, .int .i64 lf, .slice a1 N1 c1, .slice a2 N2 c2, .slice a3 N3 c3, .slice a4 N4 c4, .slice a5 N5 c5, .int .i64 sq], 66)] [] from HL3.out.kept h)
  clear h
  rcases V3 with _ | _
  · skip
    have hres : RES = false := by rw [HB.out]; rfl
    go_wp2_with fail
    go_ret
    exact ⟨by rw [hres]; rfl, HL4.out.below⟩
  go_wp2_with (first
    | (refine wpList_load_one (by kernel_rfl) 24 (.tmp 22) rfl (R1) 14 rfl 66 #[.int .i64 n0, .int .i64 n1, .int .i64 n2, .int .i64 n3, .int .i64 n4, .int .i64 n5, .int .i64 n6, .bool n7, .int .i64 ad, .int .i64 st, .int .i64 lf, .slice a1 N1 c1, .slice a2 N2 c2, .slice a3 N3 c3, .slice a4 N4 c4, .slice a5 N5 c5, .int .i64 sq] (0, 0) (HL4.out.get (.head _)) (.slice a4 N4 c4) rfl _ Try.underlying24 rfl (by kernel_rfl) ?_))
  refine ((HC4 _ (HI4.out.kept HL4.out.below)).out).mono ?_
  rintro e w5 ⟨rfl, h⟩
  have HL5 := Lib.hid (show Lg w w5 [(R1, #[.int .i64 n0, .int .i64 n1, .int .i64 n2, .int .i64 n3, .int .i64 n4, .int .i64 n5, .int .i64 n6, .bool n7, .int .i64 ad, .int .i64 st, .int .i64 lf, .slice a1 N1 c1, .slice a2 N2 c2, .slice a3 N3 c3, .slice a4 N4 c4, .slice a5 N5 c5, .int .i64 sq], 66)] [] from HL4.out.kept h)
  clear h
  rcases V4 with _ | _
  · skip
    have hres : RES = false := by rw [HB.out]; rfl
    go_wp2_with fail
    go_ret
    exact ⟨by rw [hres]; rfl, HL5.out.below⟩
  by_cases g8 : 8 < N5
  · have hd : decide ((8 : Int) < (N5 : Int)) = true := decide_eq_true (by omega)
    have hq : decide (N5 ≤ 8) = false := decide_eq_false (by omega)
    have hres : RES = false := by rw [HB.out, hq]; rfl
    go_wp2_with (first
      | (refine wpList_load_one (by kernel_rfl) 64 (.tmp 28) rfl (R1) 15 rfl 66 #[.int .i64 n0, .int .i64 n1, .int .i64 n2, .int .i64 n3, .int .i64 n4, .int .i64 n5, .int .i64 n6, .bool n7, .int .i64 ad, .int .i64 st, .int .i64 lf, .slice a1 N1 c1, .slice a2 N2 c2, .slice a3 N3 c3, .slice a4 N4 c4, .slice a5 N5 c5, .int .i64 sq] (0, 0) (HL5.out.get (.head _)) (.slice a5 N5 c5) rfl _ Try.underlying64 rfl (by kernel_rfl) ?_))
    go_ret
    exact ⟨by rw [hres]; rfl, HL5.out.below⟩
  have hd : decide ((8 : Int) < (N5 : Int)) = false := decide_eq_false (by omega)
  have hq8 : decide (N5 ≤ 8) = true := decide_eq_true (by omega)
  go_wp2_with (first
    | (refine wpList_load_one (by kernel_rfl) 64 (.tmp 28) rfl (R1) 15 rfl 66 #[.int .i64 n0, .int .i64 n1, .int .i64 n2, .int .i64 n3, .int .i64 n4, .int .i64 n5, .int .i64 n6, .bool n7, .int .i64 ad, .int .i64 st, .int .i64 lf, .slice a1 N1 c1, .slice a2 N2 c2, .slice a3 N3 c3, .slice a4 N4 c4, .slice a5 N5 c5, .int .i64 sq] (0, 0) (HL5.out.get (.head _)) (.slice a5 N5 c5) rfl _ Try.underlying64 rfl (by kernel_rfl) ?_)
    | (refine wpList_load_one (by kernel_rfl) 2 (.tmp 34) rfl (R1) 16 rfl 66 #[.int .i64 n0, .int .i64 n1, .int .i64 n2, .int .i64 n3, .int .i64 n4, .int .i64 n5, .int .i64 n6, .bool n7, .int .i64 ad, .int .i64 st, .int .i64 lf, .slice a1 N1 c1, .slice a2 N2 c2, .slice a3 N3 c3, .slice a4 N4 c4, .slice a5 N5 c5, .int .i64 sq] (0, 0) (HL5.out.get (.head _)) (.int .i64 sq) rfl _ Try.underlying2 rfl (by kernel_rfl) ?_))
  refine (l02Is_any sq 0 7 _).mono ?_
  rintro e w' ⟨rfl, rfl⟩
  rcases hi : inB 0 7 sq with _ | _
  · have hres : RES = false := by rw [HB.out, hq8, hi]; rfl
    go_wp2_with fail
    go_ret
    exact ⟨by rw [hres]; rfl, HL5.out.below⟩
  have HB2 := Lib.hid (show RES = allR (fun i => gtB (gtAt g i)) N5 from by rw [HB.out, hq8, hi]; rfl)
  clear HB hi
  go_wp2_with fail
  have HI := Lib.hid (HI5.out.kept HL5.out.below)
  have HLL := Lib.hid HL5.out
  have HRB := Lib.hid (HL5.out.get (.head _))
  have hRlt : R1 < w5.heap.size := HL5.out.lt (.head _)
  go_loopw [3, 4] (fun i _ wr => ∃ k : Nat, i = .int .i64 (k : Int) ∧ k ≤ N5 ∧ (∀ j, j < k → gtB (gtAt g j) = true) ∧ Below w5.heap.size w5 wr) (fun i _ _ => N5 - (intOf i).toNat)
  case atStart => exact ⟨0, rfl, by omega, fun j hj => absurd hj (by omega), Below.refl _ _⟩
  case round =>
    obtain ⟨k, rfl, hk, hall, hb⟩ := hrel
    have HA := Lib.hid hall
    have HR2 := Lib.hid ((hb.block R1 hRlt).trans HRB.out)
    have hRl2 : R1 < wr.heap.size := Nat.lt_of_lt_of_le hRlt hb.size
    clear hall
    by_cases hkn : k < N5
    · have hkl : k < g.length := by have := HN.out; omega
      have hi1 : (0 : Int) ≤ (k : Int) := by omega
      have hi2 : (k : Int) < (N5 : Int) := by omega
      obtain ⟨b, o, rfl, hlt, hc⟩ := HI.out.at (by omega)
      have lB : b < wr.heap.size := Nat.lt_of_lt_of_le hlt hb.size
      have HCs := Lib.hid (fun j v hv => (hb.cell (p := ⟨b, _, none⟩) hlt).trans (hc k _ (gtAt_some hkl) j v hv))
      have HSz := Lib.hid (HO.out k hkl)
      have HXt := Lib.hid (show gtB (gtAt g k) = true → ∀ j, j < k + 1 → gtB (gtAt g j) = true from fun h j hj => (Nat.lt_or_ge j k).elim (HA.out j) (fun q => (show j = k by omega) ▸ h))
      have HXf := Lib.hid (show gtB (gtAt g k) = false → RES = false from fun h => by rw [HB2.out]; exact allR_no hkn h)
      have HGB := Lib.hid (show gtB (gtAt g k) = (decide (ixD (gtAt g k).p < 6) && (inB 0 255 (gtAt g k).s && (((gtAt g k).dt.size : Int) == (defD (gtAt g k).p).s))) from rfl)
      clear hc
      generalize gtB (gtAt g k) = GB at *
      generalize gtAt g k = x at *
      obtain ⟨s, p, dt⟩ := x
      unfold gtL at HCs
      dsimp only at *
      have HZ := Lib.hid (defD_zero p)
      have HDf := fun W => Lib.hid (specDefOf_any p W)
      unfold DefOut at HDf
      generalize decide (ixD p < 6) = DD at *
      generalize (defD p).p = PP at *
      generalize (defD p).s = SS at *
      generalize (defD p).r = RR at *
      generalize (defD p).fs = FF at *
      have cS := HCs.out 0 _ rfl
      have cP := HCs.out 1 _ rfl
      have cD := HCs.out 2 _ rfl
      rw [Nat.add_zero] at cS
      have CS := Lib.hid cS
      have CP := Lib.hid cP
      have CD := Lib.hid cD
      have hsz := HSz.out
      unfold maxLen at hsz
      clear HCs cS cP cD HSz
      go_wp2_with (first
        | (refine wpList_load_one (by kernel_rfl) 64 (.tmp 40) rfl (R1) 15 rfl 66 #[.int .i64 n0, .int .i64 n1, .int .i64 n2, .int .i64 n3, .int .i64 n4, .int .i64 n5, .int .i64 n6, .bool n7, .int .i64 ad, .int .i64 st, .int .i64 lf, .slice a1 N1 c1, .slice a2 N2 c2, .slice a3 N3 c3, .slice a4 N4 c4, .slice (some ⟨b, o, none⟩) N5 c5, .int .i64 sq] (0, 0) HR2.out (.slice (some ⟨b, o, none⟩) N5 c5) rfl _ Try.underlying64 rfl (by kernel_rfl) ?_)
        | (refine wpList_load_one (by kernel_rfl) 64 (.tmp 46) rfl (R1) 15 rfl 66 #[.int .i64 n0, .int .i64 n1, .int .i64 n2, .int .i64 n3, .int .i64 n4, .int .i64 n5, .int .i64 n6, .bool n7, .int .i64 ad, .int .i64 st, .int .i64 lf, .slice a1 N1 c1, .slice a2 N2 c2, .slice a3 N3 c3, .slice a4 N4 c4, .slice (some ⟨b, o, none⟩) N5 c5, .int .i64 sq] (0, 0) HR2.out (.slice (some ⟨b, o, none⟩) N5 c5) rfl _ Try.underlying64 rfl (by kernel_rfl) ?_)
        | (refine wpList_load_one1 (by kernel_rfl) 2 (.tmp 50) rfl b (o + k * 3 + 1) rfl (.int .i64 p) CP.out _ Try.underlying2 rfl ?_))
      refine (HDf _).out.mono ?_
      rintro e v1 ⟨aF, rfl, -, h1⟩
      have HM1 := Lib.hid (show Lg wr v1 [] [] from (Lg.first wr).kept h1)
      clear h1
      go_wp2_with (first
        | (refine wpList_alloc_h rfl 117 rfl (.agg #[.int .i64 0, .int .i64 0, .int .i64 0, .slice none 0 0]) (by kernel_rfl) #[.int .i64 0, .int .i64 0, .int .i64 0, .slice none 0 0] rfl ?_; intro v2 SR2 e2 g2 b2; have HM2 := Lib.hid (show Lg wr v2 [(SR2, #[.int .i64 0, .int .i64 0, .int .i64 0, .slice none 0 0], 117)] [] from HM1.out.box e2 g2 b2); clear g2 b2 e2)
        | (refine wpList_put_at rfl 117 (.tmp 4) (.tmp 52) rfl rfl (SR2) 0 rfl (.agg #[.int .i64 PP, .int .i64 SS, .int .i64 RR, .slice aF FF.length FF.length]) rfl #[.int .i64 PP, .int .i64 SS, .int .i64 RR, .slice aF FF.length FF.length] rfl 117 #[.int .i64 0, .int .i64 0, .int .i64 0, .slice none 0 0] #[.int .i64 PP, .int .i64 SS, .int .i64 RR, .slice aF FF.length FF.length] (HM2.out.get (.head _)) (by kernel_rfl) (by kernel_rfl) (by kernel_rfl) (by kernel_rfl) ?_; intro v3 g3 o3; have HM3 := Lib.hid (show Lg wr v3 [(SR2, #[.int .i64 PP, .int .i64 SS, .int .i64 RR, .slice aF FF.length FF.length], 117)] [] from HM2.out.put 0 rfl g3 o3 (fun _ h => nomatch h) (fun _ h => nomatch h) rfl); clear g3 o3))
      have HR3 := Lib.hid ((HM3.out.below.block R1 hRl2).trans HR2.out)
      have HSb := Lib.hid (HM3.out.get (.head _))
      have CS3 := Lib.hid ((HM3.out.below.cell (p := ⟨b, _, none⟩) lB).trans CS.out)
      have CD3 := Lib.hid ((HM3.out.below.cell (p := ⟨b, _, none⟩) lB).trans CD.out)
      have lB3 : b < v3.heap.size := Nat.lt_of_lt_of_le lB HM3.out.below.size
      obtain ⟨ZB, hZB⟩ : ∃ z, (SS == 0) = z := ⟨_, rfl⟩
      rw [hZB] at HZ
      obtain ⟨QB, hQB⟩ : ∃ z, ((dt.size : Int) == SS) = z := ⟨_, rfl⟩
      have hQn : ((dt.size : Int) != SS) = !QB := by rw [← hQB]; rfl
      rw [hQB] at HGB
      clear hQB
      rcases hi : inB 0 255 s with _ | _
      · go_wp2_with fail
        refine wp_region_quiet (C := fun W => Below v3.heap.size v3 W) (by kernel_rfl) (by kernel_rfl) (Below.refl _ _).drew ?_
        dsimp only
        try simp only [Act.put, List.setIfInBounds_toArray, List.set_cons_zero, List.set_cons_succ]
        go_big_quiet_want; go_big_quiet_op; first | go_big_quiet_on | (refine ⟨_, fun _ _ => rfl, ?_⟩; go_big_quiet_on)
        go_big_quiet_want; refine ⟨.slice (some ⟨b, o, none⟩) N5 c5, fun W hW => (quietLoadOne 64 (.tmp 53) rfl R1 15 rfl _ (rowCells HR3.out hW _ _ rfl) _ Try.underlying64 rfl), ?_⟩; simp only [Act.put, List.setIfInBounds_toArray, List.set_cons_zero, List.set_cons_succ]; go_big_quiet_on
        go_big_quiet_want; go_big_quiet_op; first | go_big_quiet_on | (refine ⟨_, fun _ _ => rfl, ?_⟩; go_big_quiet_on)
        go_big_quiet_want; go_big_quiet_op; first | go_big_quiet_on | (refine ⟨_, fun _ _ => rfl, ?_⟩; go_big_quiet_on)
        go_big_quiet_want; go_big_quiet_op; first | go_big_quiet_on | (refine ⟨_, fun _ _ => rfl, ?_⟩; go_big_quiet_on)
        go_big_quiet_want; refine ⟨.int .i64 s, fun W hW => (quietLoadOne 2 (.tmp 57) rfl b (o + k * 3) rfl _ ((hW.cell (p := ⟨b, o + k * 3, none⟩) lB3).trans CS3.out) _ Try.underlying2 rfl), ?_⟩; simp only [Act.put, List.setIfInBounds_toArray, List.set_cons_zero, List.set_cons_succ]; go_big_quiet_on
        go_big_quiet_want; go_big_quiet_op; refine ⟨_, fun W hW => quietSame hW (hi ▸ l02Is_any s 0 255 W), ?_⟩; go_big_quiet_on
        go_big_quiet_want; go_big_quiet_op; first | go_big_quiet_on | (refine ⟨_, fun _ _ => rfl, ?_⟩; go_big_quiet_on)
        go_big_quiet_want; go_big_quiet_op; first | go_big_quiet_on | (refine ⟨_, fun _ _ => rfl, ?_⟩; go_big_quiet_on)
        go_big_quiet_skip
        go_big_quiet_skip
        go_big_quiet_skip
        go_big_quiet_want; go_big_quiet_op; first | go_big_quiet_on | (refine ⟨_, fun _ _ => rfl, ?_⟩; go_big_quiet_on)
        go_big_quiet_want; go_big_quiet_op; first | go_big_quiet_on | (refine ⟨_, fun _ _ => rfl, ?_⟩; go_big_quiet_on)
        go_big_quiet_skip
        go_big_quiet_skip
        go_big_quiet_skip
        go_big_quiet_skip
        go_big_quiet_skip
        go_big_quiet_skip
        go_big_quiet_skip
        go_big_quiet_skip
        go_big_quiet_skip
        go_big_quiet_skip
        go_big_quiet_want; go_big_quiet_op; first | go_big_quiet_on | (refine ⟨_, fun _ _ => rfl, ?_⟩; go_big_quiet_on)
        refine wpQuiet_nil ?_
        intro X hX
        have hres := HXf.out (by rw [HGB.out, hi]; simp)
        go_wp2_with fail
        go_ret
        exact ⟨by rw [hres]; rfl, HLL.out.below.trans ((hb.trans ((HM3.out.below.trans (hX.mono HM3.out.below.size)).mono hb.size)).mono HLL.out.below.size)⟩
      rcases ZB with _ | _
      · have hDD : DD = true := by cases DD <;> first | rfl | (have := HZ.out; cases this)
        rcases QB with _ | _
        · go_wp2_with fail
          refine wp_region_quiet (C := fun W => Below v3.heap.size v3 W) (by kernel_rfl) (by kernel_rfl) (Below.refl _ _).drew ?_
          dsimp only
          try simp only [Act.put, List.setIfInBounds_toArray, List.set_cons_zero, List.set_cons_succ]
          go_big_quiet_want; go_big_quiet_op; first | go_big_quiet_on | (refine ⟨_, fun _ _ => rfl, ?_⟩; go_big_quiet_on)
          go_big_quiet_want; refine ⟨.slice (some ⟨b, o, none⟩) N5 c5, fun W hW => (quietLoadOne 64 (.tmp 53) rfl R1 15 rfl _ (rowCells HR3.out hW _ _ rfl) _ Try.underlying64 rfl), ?_⟩; simp only [Act.put, List.setIfInBounds_toArray, List.set_cons_zero, List.set_cons_succ]; go_big_quiet_on
          go_big_quiet_want; go_big_quiet_op; first | go_big_quiet_on | (refine ⟨_, fun _ _ => rfl, ?_⟩; go_big_quiet_on)
          go_big_quiet_want; go_big_quiet_op; first | go_big_quiet_on | (refine ⟨_, fun _ _ => rfl, ?_⟩; go_big_quiet_on)
          go_big_quiet_want; go_big_quiet_op; first | go_big_quiet_on | (refine ⟨_, fun _ _ => rfl, ?_⟩; go_big_quiet_on)
          go_big_quiet_want; refine ⟨.int .i64 s, fun W hW => (quietLoadOne 2 (.tmp 57) rfl b (o + k * 3) rfl _ ((hW.cell (p := ⟨b, o + k * 3, none⟩) lB3).trans CS3.out) _ Try.underlying2 rfl), ?_⟩; simp only [Act.put, List.setIfInBounds_toArray, List.set_cons_zero, List.set_cons_succ]; go_big_quiet_on
          go_big_quiet_want; go_big_quiet_op; refine ⟨_, fun W hW => quietSame hW (hi ▸ l02Is_any s 0 255 W), ?_⟩; go_big_quiet_on
          go_big_quiet_want; go_big_quiet_op; first | go_big_quiet_on | (refine ⟨_, fun _ _ => rfl, ?_⟩; go_big_quiet_on)
          go_big_quiet_want; go_big_quiet_op; first | go_big_quiet_on | (refine ⟨_, fun _ _ => rfl, ?_⟩; go_big_quiet_on)
          go_big_quiet_want; go_big_quiet_op; first | go_big_quiet_on | (refine ⟨_, fun _ _ => rfl, ?_⟩; go_big_quiet_on)
          go_big_quiet_want; refine ⟨.int .i64 SS, fun W hW => (quietLoadOne 2 (.tmp 62) rfl SR2 1 rfl _ (rowCells HSb.out hW _ _ rfl) _ Try.underlying2 rfl), ?_⟩; simp only [Act.put, List.setIfInBounds_toArray, List.set_cons_zero, List.set_cons_succ]; go_big_quiet_on
          go_big_quiet_want; go_big_quiet_op; first | go_big_quiet_on | (refine ⟨_, fun _ _ => rfl, ?_⟩; go_big_quiet_on)
          go_big_quiet_want; go_big_quiet_op; first | go_big_quiet_on | (refine ⟨_, fun _ _ => rfl, ?_⟩; go_big_quiet_on)
          go_big_quiet_want; go_big_quiet_op; first | go_big_quiet_on | (refine ⟨_, fun _ _ => rfl, ?_⟩; go_big_quiet_on)
          go_big_quiet_want; go_big_quiet_op; first | go_big_quiet_on | (refine ⟨_, fun _ _ => rfl, ?_⟩; go_big_quiet_on)
          go_big_quiet_want; refine ⟨.slice (some ⟨b, o, none⟩) N5 c5, fun W hW => (quietLoadOne 64 (.tmp 67) rfl R1 15 rfl _ (rowCells HR3.out hW _ _ rfl) _ Try.underlying64 rfl), ?_⟩; simp only [Act.put, List.setIfInBounds_toArray, List.set_cons_zero, List.set_cons_succ]; go_big_quiet_on
          go_big_quiet_want; go_big_quiet_op; first | go_big_quiet_on | (refine ⟨_, fun _ _ => rfl, ?_⟩; go_big_quiet_on)
          go_big_quiet_want; go_big_quiet_op; first | go_big_quiet_on | (refine ⟨_, fun _ _ => rfl, ?_⟩; go_big_quiet_on)
          go_big_quiet_want; go_big_quiet_op; first | go_big_quiet_on | (refine ⟨_, fun _ _ => rfl, ?_⟩; go_big_quiet_on)
          go_big_quiet_want; refine ⟨.string dt, fun W hW => (quietLoadOne 9 (.tmp 71) rfl b (o + k * 3 + 2) rfl _ ((hW.cell (p := ⟨b, o + k * 3 + 2, none⟩) lB3).trans CD3.out) _ Try.underlying9 rfl), ?_⟩; simp only [Act.put, List.setIfInBounds_toArray, List.set_cons_zero, List.set_cons_succ]; go_big_quiet_on
          go_big_quiet_want; go_big_quiet_op; first | go_big_quiet_on | (refine ⟨_, fun _ _ => rfl, ?_⟩; go_big_quiet_on)
          go_big_quiet_want; go_big_quiet_op; first | go_big_quiet_on | (refine ⟨_, fun _ _ => rfl, ?_⟩; go_big_quiet_on)
          go_big_quiet_want; refine ⟨.int .i64 SS, fun W hW => (quietLoadOne 2 (.tmp 74) rfl SR2 1 rfl _ (rowCells HSb.out hW _ _ rfl) _ Try.underlying2 rfl), ?_⟩; simp only [Act.put, List.setIfInBounds_toArray, List.set_cons_zero, List.set_cons_succ]; go_big_quiet_on
          go_big_quiet_want; go_big_quiet_op; first | go_big_quiet_on | (refine ⟨_, fun _ _ => rfl, ?_⟩; go_big_quiet_on)
          go_big_quiet_want; go_big_quiet_op; first | go_big_quiet_on | (refine ⟨_, fun _ _ => rfl, ?_⟩; go_big_quiet_on)
          refine wpQuiet_nil ?_
          intro X hX
          have hres := HXf.out (by rw [HGB.out]; simp)
          go_wp2_with fail
          go_ret
          exact ⟨by rw [hres]; rfl, HLL.out.below.trans ((hb.trans ((HM3.out.below.trans (hX.mono HM3.out.below.size)).mono hb.size)).mono HLL.out.below.size)⟩
        · go_wp2_with fail
          refine wp_region_quiet (C := fun W => Below v3.heap.size v3 W) (by kernel_rfl) (by kernel_rfl) (Below.refl _ _).drew ?_
          dsimp only
          try simp only [Act.put, List.setIfInBounds_toArray, List.set_cons_zero, List.set_cons_succ]
          go_big_quiet_want; go_big_quiet_op; first | go_big_quiet_on | (refine ⟨_, fun _ _ => rfl, ?_⟩; go_big_quiet_on)
          go_big_quiet_want; refine ⟨.slice (some ⟨b, o, none⟩) N5 c5, fun W hW => (quietLoadOne 64 (.tmp 53) rfl R1 15 rfl _ (rowCells HR3.out hW _ _ rfl) _ Try.underlying64 rfl), ?_⟩; simp only [Act.put, List.setIfInBounds_toArray, List.set_cons_zero, List.set_cons_succ]; go_big_quiet_on
          go_big_quiet_want; go_big_quiet_op; first | go_big_quiet_on | (refine ⟨_, fun _ _ => rfl, ?_⟩; go_big_quiet_on)
          go_big_quiet_want; go_big_quiet_op; first | go_big_quiet_on | (refine ⟨_, fun _ _ => rfl, ?_⟩; go_big_quiet_on)
          go_big_quiet_want; go_big_quiet_op; first | go_big_quiet_on | (refine ⟨_, fun _ _ => rfl, ?_⟩; go_big_quiet_on)
          go_big_quiet_want; refine ⟨.int .i64 s, fun W hW => (quietLoadOne 2 (.tmp 57) rfl b (o + k * 3) rfl _ ((hW.cell (p := ⟨b, o + k * 3, none⟩) lB3).trans CS3.out) _ Try.underlying2 rfl), ?_⟩; simp only [Act.put, List.setIfInBounds_toArray, List.set_cons_zero, List.set_cons_succ]; go_big_quiet_on
          go_big_quiet_want; go_big_quiet_op; refine ⟨_, fun W hW => quietSame hW (hi ▸ l02Is_any s 0 255 W), ?_⟩; go_big_quiet_on
          go_big_quiet_want; go_big_quiet_op; first | go_big_quiet_on | (refine ⟨_, fun _ _ => rfl, ?_⟩; go_big_quiet_on)
          go_big_quiet_want; go_big_quiet_op; first | go_big_quiet_on | (refine ⟨_, fun _ _ => rfl, ?_⟩; go_big_quiet_on)
          go_big_quiet_want; go_big_quiet_op; first | go_big_quiet_on | (refine ⟨_, fun _ _ => rfl, ?_⟩; go_big_quiet_on)
          go_big_quiet_want; refine ⟨.int .i64 SS, fun W hW => (quietLoadOne 2 (.tmp 62) rfl SR2 1 rfl _ (rowCells HSb.out hW _ _ rfl) _ Try.underlying2 rfl), ?_⟩; simp only [Act.put, List.setIfInBounds_toArray, List.set_cons_zero, List.set_cons_succ]; go_big_quiet_on
          go_big_quiet_want; go_big_quiet_op; first | go_big_quiet_on | (refine ⟨_, fun _ _ => rfl, ?_⟩; go_big_quiet_on)
          go_big_quiet_want; go_big_quiet_op; first | go_big_quiet_on | (refine ⟨_, fun _ _ => rfl, ?_⟩; go_big_quiet_on)
          go_big_quiet_want; go_big_quiet_op; first | go_big_quiet_on | (refine ⟨_, fun _ _ => rfl, ?_⟩; go_big_quiet_on)
          go_big_quiet_want; go_big_quiet_op; first | go_big_quiet_on | (refine ⟨_, fun _ _ => rfl, ?_⟩; go_big_quiet_on)
          go_big_quiet_want; refine ⟨.slice (some ⟨b, o, none⟩) N5 c5, fun W hW => (quietLoadOne 64 (.tmp 67) rfl R1 15 rfl _ (rowCells HR3.out hW _ _ rfl) _ Try.underlying64 rfl), ?_⟩; simp only [Act.put, List.setIfInBounds_toArray, List.set_cons_zero, List.set_cons_succ]; go_big_quiet_on
          go_big_quiet_want; go_big_quiet_op; first | go_big_quiet_on | (refine ⟨_, fun _ _ => rfl, ?_⟩; go_big_quiet_on)
          go_big_quiet_want; go_big_quiet_op; first | go_big_quiet_on | (refine ⟨_, fun _ _ => rfl, ?_⟩; go_big_quiet_on)
          go_big_quiet_want; go_big_quiet_op; first | go_big_quiet_on | (refine ⟨_, fun _ _ => rfl, ?_⟩; go_big_quiet_on)
          go_big_quiet_want; refine ⟨.string dt, fun W hW => (quietLoadOne 9 (.tmp 71) rfl b (o + k * 3 + 2) rfl _ ((hW.cell (p := ⟨b, o + k * 3 + 2, none⟩) lB3).trans CD3.out) _ Try.underlying9 rfl), ?_⟩; simp only [Act.put, List.setIfInBounds_toArray, List.set_cons_zero, List.set_cons_succ]; go_big_quiet_on
          go_big_quiet_want; go_big_quiet_op; first | go_big_quiet_on | (refine ⟨_, fun _ _ => rfl, ?_⟩; go_big_quiet_on)
          go_big_quiet_want; go_big_quiet_op; first | go_big_quiet_on | (refine ⟨_, fun _ _ => rfl, ?_⟩; go_big_quiet_on)
          go_big_quiet_want; refine ⟨.int .i64 SS, fun W hW => (quietLoadOne 2 (.tmp 74) rfl SR2 1 rfl _ (rowCells HSb.out hW _ _ rfl) _ Try.underlying2 rfl), ?_⟩; simp only [Act.put, List.setIfInBounds_toArray, List.set_cons_zero, List.set_cons_succ]; go_big_quiet_on
          go_big_quiet_want; go_big_quiet_op; first | go_big_quiet_on | (refine ⟨_, fun _ _ => rfl, ?_⟩; go_big_quiet_on)
          go_big_quiet_want; go_big_quiet_op; first | go_big_quiet_on | (refine ⟨_, fun _ _ => rfl, ?_⟩; go_big_quiet_on)
          refine wpQuiet_nil ?_
          intro X hX
          have hal := Lib.hid (HXt.out (by rw [HGB.out, hDD, hi]; rfl))
          go_wp2_with fail
          go_roundw
          case rel => exact ⟨k + 1, by go_num, by omega, hal.out, hb.trans ((HM3.out.below.trans (hX.mono HM3.out.below.size)).mono hb.size)⟩
          case measure => simp [intOf]; omega
      · have hDD : DD = false := by cases DD <;> first | rfl | (have := HZ.out; cases this)
        go_wp2_with fail
        refine wp_region_quiet (C := fun W => Below v3.heap.size v3 W) (by kernel_rfl) (by kernel_rfl) (Below.refl _ _).drew ?_
        dsimp only
        try simp only [Act.put, List.setIfInBounds_toArray, List.set_cons_zero, List.set_cons_succ]
        go_big_quiet_want; go_big_quiet_op; first | go_big_quiet_on | (refine ⟨_, fun _ _ => rfl, ?_⟩; go_big_quiet_on)
        go_big_quiet_want; refine ⟨.slice (some ⟨b, o, none⟩) N5 c5, fun W hW => (quietLoadOne 64 (.tmp 53) rfl R1 15 rfl _ (rowCells HR3.out hW _ _ rfl) _ Try.underlying64 rfl), ?_⟩; simp only [Act.put, List.setIfInBounds_toArray, List.set_cons_zero, List.set_cons_succ]; go_big_quiet_on
        go_big_quiet_want; go_big_quiet_op; first | go_big_quiet_on | (refine ⟨_, fun _ _ => rfl, ?_⟩; go_big_quiet_on)
        go_big_quiet_want; go_big_quiet_op; first | go_big_quiet_on | (refine ⟨_, fun _ _ => rfl, ?_⟩; go_big_quiet_on)
        go_big_quiet_want; go_big_quiet_op; first | go_big_quiet_on | (refine ⟨_, fun _ _ => rfl, ?_⟩; go_big_quiet_on)
        go_big_quiet_want; refine ⟨.int .i64 s, fun W hW => (quietLoadOne 2 (.tmp 57) rfl b (o + k * 3) rfl _ ((hW.cell (p := ⟨b, o + k * 3, none⟩) lB3).trans CS3.out) _ Try.underlying2 rfl), ?_⟩; simp only [Act.put, List.setIfInBounds_toArray, List.set_cons_zero, List.set_cons_succ]; go_big_quiet_on
        go_big_quiet_want; go_big_quiet_op; refine ⟨_, fun W hW => quietSame hW (hi ▸ l02Is_any s 0 255 W), ?_⟩; go_big_quiet_on
        go_big_quiet_want; go_big_quiet_op; first | go_big_quiet_on | (refine ⟨_, fun _ _ => rfl, ?_⟩; go_big_quiet_on)
        go_big_quiet_want; go_big_quiet_op; first | go_big_quiet_on | (refine ⟨_, fun _ _ => rfl, ?_⟩; go_big_quiet_on)
        go_big_quiet_want; go_big_quiet_op; first | go_big_quiet_on | (refine ⟨_, fun _ _ => rfl, ?_⟩; go_big_quiet_on)
        go_big_quiet_want; refine ⟨.int .i64 SS, fun W hW => (quietLoadOne 2 (.tmp 62) rfl SR2 1 rfl _ (rowCells HSb.out hW _ _ rfl) _ Try.underlying2 rfl), ?_⟩; simp only [Act.put, List.setIfInBounds_toArray, List.set_cons_zero, List.set_cons_succ]; go_big_quiet_on
        go_big_quiet_want; go_big_quiet_op; first | go_big_quiet_on | (refine ⟨_, fun _ _ => rfl, ?_⟩; go_big_quiet_on)
        go_big_quiet_want; go_big_quiet_op; first | go_big_quiet_on | (refine ⟨_, fun _ _ => rfl, ?_⟩; go_big_quiet_on)
        go_big_quiet_want; go_big_quiet_op; first | go_big_quiet_on | (refine ⟨_, fun _ _ => rfl, ?_⟩; go_big_quiet_on)
        go_big_quiet_skip
        go_big_quiet_skip
        go_big_quiet_skip
        go_big_quiet_skip
        go_big_quiet_skip
        go_big_quiet_skip
        go_big_quiet_skip
        go_big_quiet_skip
        go_big_quiet_skip
        go_big_quiet_skip
        go_big_quiet_want; go_big_quiet_op; first | go_big_quiet_on | (refine ⟨_, fun _ _ => rfl, ?_⟩; go_big_quiet_on)
        refine wpQuiet_nil ?_
        intro X hX
        have hres := HXf.out (by rw [HGB.out, hDD]; rfl)
        go_wp2_with fail
        go_ret
        exact ⟨by rw [hres]; rfl, HLL.out.below.trans ((hb.trans ((HM3.out.below.trans (hX.mono HM3.out.below.size)).mono hb.size)).mono HLL.out.below.size)⟩
    · have hres : RES = true := by rw [HB2.out]; exact allR_yes (fun i hi => HA.out i (by omega))
      have hcf : decide ((k : Int) < (N5 : Int)) = false := decide_eq_false (by omega)
      go_wp2_with (first
        | (refine wpList_load_one (by kernel_rfl) 64 (.tmp 40) rfl (R1) 15 rfl 66 #[.int .i64 n0, .int .i64 n1, .int .i64 n2, .int .i64 n3, .int .i64 n4, .int .i64 n5, .int .i64 n6, .bool n7, .int .i64 ad, .int .i64 st, .int .i64 lf, .slice a1 N1 c1, .slice a2 N2 c2, .slice a3 N3 c3, .slice a4 N4 c4, .slice a5 N5 c5, .int .i64 sq] (0, 0) HR2.out (.slice a5 N5 c5) rfl _ Try.underlying64 rfl (by kernel_rfl) ?_))
      go_ret
      exact ⟨by rw [hres]; rfl, HLL.out.below.trans (hb.mono HLL.out.below.size)⟩
end Go.Proofs.Ytpolpkheaibonaa
