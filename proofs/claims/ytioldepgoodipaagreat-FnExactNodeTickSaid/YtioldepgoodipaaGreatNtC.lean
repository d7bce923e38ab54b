/- Several texts in one, each with its own head: what is proved, and of what, stands there. -/
import Derived.Test.YtioldepgoodipaaGreatClaimRight
import Derived.Test.YtioldepgoodipaaGreatCansTo
import Derived.Test.YtioldepgoodipaaGreatNameImpl
import Derived.Test.YtioldepgoodipaaGreatNtB
import Derived.Test.YtioldepgoodipaaGreatConv
import Derived.BigRegion
import Derived.BigQuiet
import Derived.Test.YtioldepgoodipaaGreatNameLess2
import Derived.Test.YtioldepgoodipaaGreatNtA
import Derived.Test.YtioldepgoodipaaGreatStep
import Derived.Lib.Overlaps
import Derived.Lib.AppendZerosOnto
import Derived.Deep.RegionLaw
import Derived.Laws.CopyOwn
import Derived.Test.YtioldepgoodipaaGreatNumsTo
import Derived.Test.YtioldepgoodipaaGreatClaimMath
import Derived.Test.YtioldepgoodipaaGreatClaimNew
import Derived.Test.YtioldepgoodipaaGreatPutRow
import Derived.Test.YtioldepgoodipaaGreatRowsAt
/- Whether a Claim is right: the program's. Nothing that was there is written. -/
namespace Go.Proofs.YtioldepgoodipaaGreat
open Go.RowKit
set_option linter.unusedVariables false

/-- What its state asks of an address and of what is left. -/
def stB (ad st lf : Int) : Bool :=
  if st = 1 then inB 0 251 ad && inB 1 250 lf else if st = 2 then inB 0 251 ad && decide (lf = 0) else if st = 3 then decide (ad = 254) && decide (lf = 0) else false
theorem stB_eq (c : Cl) : stateB c = stB c.ad c.st c.lf := rfl
set_option maxRecDepth 100000 in
set_option maxHeartbeats 2000000 in
theorem stateRight_any (n : Nm) (ad st lf : Int) (v : Value) (w : World) :
    Calls Tryz.prog 187 #[clV n ad st lf v] w fun e w' => e = .returned (.bool (stB ad st lf)) ∧ Below w.heap.size w w' := by
  obtain ⟨n0, n1, n2, n3, n4, n5, n6, n7⟩ := n
  unfold clV
  dsimp only
  obtain ⟨R, hR⟩ : ∃ R, stB ad st lf = R := ⟨_, rfl⟩
  have HS := Lib.hid (show (if st = 1 then inB 0 251 ad && inB 1 250 lf else if st = 2 then inB 0 251 ad && decide (lf = 0) else if st = 3 then decide (ad = 254) && decide (lf = 0) else false) = R from hR)
  rw [hR]
  clear hR
  have HA := fun W => Lib.hid (from0_any ad 251 W)
  by_cases s1 : st = 1
  · subst s1
    rcases ha : inB 0 251 ad
    · have HO := Lib.hid (show R = false by rw [← HS.out, if_pos rfl, ha]; rfl)
      rw [ha] at HA
      clear HS ha
      go_enter Tryz.func187, Tryz.ntmps187
      go_wp2_with (go_at_call 131; refine (HA _).out.mono ?_; rintro e w' ⟨rfl, rfl⟩)
      go_ret
      exact ⟨by rw [HO.out]; rfl, (Below.refl _ _).alloc (Nat.le_refl _) _⟩
    rw [ha] at HA
    have HL := HS.out
    rw [if_pos rfl, ha, Bool.true_and] at HL
    clear HS ha
    by_cases h1 : 1 ≤ lf
    · have hd : decide (1 ≤ lf) = true := decide_eq_true h1
      have HO := Lib.hid (show R = decide (lf ≤ 250) by rw [← HL]; simp [inB, hd])
      clear HL h1
      go_enter Tryz.func187, Tryz.ntmps187
      go_wp2_with (go_at_call 131; refine (HA _).out.mono ?_; rintro e w' ⟨rfl, rfl⟩)
      go_ret
      exact ⟨by rw [HO.out]; rfl, (Below.refl _ _).alloc (Nat.le_refl _) _⟩
    · have hd : decide (1 ≤ lf) = false := decide_eq_false h1
      have HO := Lib.hid (show R = false by rw [← HL]; simp [inB, hd])
      clear HL h1
      go_enter Tryz.func187, Tryz.ntmps187
      go_wp2_with (go_at_call 131; refine (HA _).out.mono ?_; rintro e w' ⟨rfl, rfl⟩)
      go_ret
      exact ⟨by rw [HO.out]; rfl, (Below.refl _ _).alloc (Nat.le_refl _) _⟩
  have hs1 : (st == 1) = false := by simpa using s1
  by_cases s2 : st = 2
  · subst s2
    rcases ha : inB 0 251 ad
    · have HO := Lib.hid (show R = false by rw [← HS.out, if_neg s1, if_pos rfl, ha]; rfl)
      rw [ha] at HA
      clear HS ha s1
      go_enter Tryz.func187, Tryz.ntmps187
      go_wp2_with (go_at_call 131; refine (HA _).out.mono ?_; rintro e w' ⟨rfl, rfl⟩)
      go_ret
      exact ⟨by rw [HO.out]; rfl, (Below.refl _ _).alloc (Nat.le_refl _) _⟩
    rw [ha] at HA
    have HL := HS.out
    rw [if_neg s1, if_pos rfl, ha, Bool.true_and] at HL
    clear HS ha s1
    by_cases h1 : 0 ≤ lf
    · have hd : decide (0 ≤ lf) = true := decide_eq_true h1
      have HO := Lib.hid (show R = decide (lf ≤ 0) by rw [← HL]; exact decide_eq_decide.2 (by omega))
      clear HL h1
      go_enter Tryz.func187, Tryz.ntmps187
      go_wp2_with (go_at_call 131; refine (HA _).out.mono ?_; rintro e w' ⟨rfl, rfl⟩)
      go_ret
      exact ⟨by rw [HO.out]; rfl, (Below.refl _ _).alloc (Nat.le_refl _) _⟩
    · have hd : decide (0 ≤ lf) = false := decide_eq_false h1
      have HO := Lib.hid (show R = false by rw [← HL]; exact decide_eq_false (by omega))
      clear HL h1
      go_enter Tryz.func187, Tryz.ntmps187
      go_wp2_with (go_at_call 131; refine (HA _).out.mono ?_; rintro e w' ⟨rfl, rfl⟩)
      go_ret
      exact ⟨by rw [HO.out]; rfl, (Below.refl _ _).alloc (Nat.le_refl _) _⟩
  have hs2 : (st == 2) = false := by simpa using s2
  by_cases s3 : st = 3
  · subst s3
    by_cases ha : ad = 254
    · subst ha
      have HO := Lib.hid (show R = (lf == 0) by rw [← HS.out, if_neg s1, if_neg s2, if_pos rfl]; simp; exact (Bool.beq_eq_decide_eq lf 0).symm)
      clear HS s1 s2
      go_enter Tryz.func187, Tryz.ntmps187
      go_wp2
      go_ret
      exact ⟨by rw [HO.out]; rfl, (Below.refl _ _).alloc (Nat.le_refl _) _⟩
    · have hd : (ad == 254) = false := by simpa using ha
      have HO := Lib.hid (show R = false by rw [← HS.out, if_neg s1, if_neg s2, if_pos rfl]; simp [ha])
      clear HS s1 s2 ha
      go_enter Tryz.func187, Tryz.ntmps187
      go_wp2
      go_ret
      exact ⟨by rw [HO.out]; rfl, (Below.refl _ _).alloc (Nat.le_refl _) _⟩
  · have hs3 : (st == 3) = false := by simpa using s3
    have HO := Lib.hid (show R = false by rw [← HS.out, if_neg s1, if_neg s2, if_neg s3])
    clear HS s1 s2 s3
    go_enter Tryz.func187, Tryz.ntmps187
    go_wp2
    go_ret
    exact ⟨by rw [HO.out]; rfl, (Below.refl _ _).alloc (Nat.le_refl _) _⟩
set_option maxRecDepth 100000 in
set_option maxHeartbeats 2000000 in
theorem takenRight_any (a : Option Addr) (cap : Nat) (l : List Int) (w : World) (h : NumsIn w a l) (hlen : l.length ≤ 1048576) :
    Calls Tryz.prog 188 #[.slice a l.length cap] w fun e w' => e = .returned (.bool (riseB (-1) l)) ∧ w = w' := by
  obtain ⟨R, hR⟩ : ∃ R, riseB (-1) l = R := ⟨_, rfl⟩
  have HR := Lib.hid (show riseB (pvI l 0) (l.drop 0) = R from hR)
  rw [hR]
  clear hR
  obtain ⟨N, hN⟩ : ∃ N, l.length = N := ⟨_, rfl⟩
  have HN := Lib.hid hN
  rw [hN] at hlen ⊢
  clear hN
  have HI := Lib.hid h
  clear h
  go_enter Tryz.func188, Tryz.ntmps188
  go_wp2_with fail
  go_loopw [3, 8] (fun p i wr => ∃ (k : Nat) (m : Int), i = .int .i64 (k : Int) ∧ p = .int .i64 m ∧ m = pvI l k + 1 ∧ 0 ≤ m ∧ k ≤ N ∧ riseB (pvI l k) (l.drop k) = R ∧ w = wr) (fun _ i _ => N - (intOf i).toNat)
  case atStart => exact ⟨0, 0, rfl, rfl, rfl, by omega, by omega, HR.out, rfl⟩
  case round =>
    obtain ⟨k, m, rfl, rfl, hm, hm0, hk, hr, rfl⟩ := hrel
    have HM := Lib.hid hm
    have HK := Lib.hid hr
    clear hm hr HR
    by_cases hkn : k < N
    · have hkl : k < l.length := by have := HN.out; omega
      obtain ⟨b, o, rfl, hlt, hc⟩ := HI.out.at (by omega)
      have d0 := hc k _ (numAt_some hkl)
      have hi1 : (0 : Int) ≤ (k : Int) := by omega
      have hi2 : (k : Int) < (N : Int) := by omega
      have HT := Lib.hid (riseB_step hkl)
      have hx : pvI l (k + 1) = numAt l k := by simp [pvI]
      obtain ⟨x, hxx⟩ : ∃ x, numAt l k = x := ⟨_, rfl⟩
      rw [hxx] at d0 hx
      have HX := Lib.hid hx
      have HXX := Lib.hid hxx
      clear hc hx hxx
      by_cases h1 : x < m
      · have hd : decide (x < m) = true := decide_eq_true h1
        have HO := Lib.hid (show R = false by
          rw [← HK.out, HT.out, HXX.out]
          simp only [Bool.and_eq_false_iff]
          exact .inr (.inl (decide_eq_false (by have := HM.out; omega))))
        clear h1
        go_wp2_with fail
        go_ret
        exact ⟨by rw [HO.out]; rfl, rfl⟩
      have hd : decide (x < m) = false := decide_eq_false h1
      by_cases h2 : 251 < x
      · have hd2 : decide (251 < x) = true := decide_eq_true h2
        have HO := Lib.hid (show R = false by
          rw [← HK.out, HT.out, HXX.out, inB_no (by omega)]
          rfl)
        clear h1 h2
        go_wp2_with fail
        go_ret
        exact ⟨by rw [HO.out]; rfl, rfl⟩
      have hd2 : decide (251 < x) = false := decide_eq_false h2
      have hw : IntKind.i64.wrap (x + 1) = x + 1 := IntWalk.i64_in _ (by omega)
      have HN2 := Lib.hid (show riseB (pvI l (k + 1)) (l.drop (k + 1)) = R by
        rw [← HK.out, HT.out, HXX.out, inB_yes (by omega) (by omega), decide_eq_true (by have := HM.out; omega)]
        rfl)
      go_wp2_with fail
      go_roundw
      case rel => exact ⟨k + 1, x + 1, by go_num, rfl, by rw [HX.out], by omega, by omega, HN2.out, by first | rfl | trivial⟩
      case measure => simp [intOf]; omega
    · have hge : N ≤ k := by omega
      have HO := Lib.hid (show R = true by
        rw [← HK.out, List.drop_eq_nil_of_le (by have := HN.out; omega)]
        rfl)
      go_wp2_with fail
      go_ret
      exact ⟨by rw [HO.out]; rfl, rfl⟩
set_option maxRecDepth 100000 in
set_option maxHeartbeats 2000000 in
theorem implClaimRight_any (n : Nm) (ad st lf : Int) (a : Option Addr) (cap : Nat) (l : List Int) (w : World) (h : NumsIn w a l) (hlen : l.length ≤ 1048576) :
    Calls Tryz.prog 127 #[clV n ad st lf (.slice a l.length cap)] w fun e w' => e = .returned (.bool (clB ⟨n, ad, st, lf, l⟩)) ∧ Below w.heap.size w w' := by
  have HN := fun W => Lib.hid (implNameOk_any n W)
  have HS := fun W => Lib.hid (stateRight_any n ad st lf (.slice a l.length cap) W)
  have HT := fun W hW => Lib.hid (takenRight_any a cap l W hW hlen)
  have HI := Lib.hid h
  obtain ⟨R, hR⟩ : ∃ R, clB ⟨n, ad, st, lf, l⟩ = R := ⟨_, rfl⟩
  have HR := Lib.hid (show (okB n && (stB ad st lf && riseB (-1) l)) = R by
    rw [← hR]
    unfold clB
    rw [stB_eq]
    dsimp only
    rcases hq : riseB (-1) l
    · simp
    · have := riseB_len hq (by omega)
      rw [decide_eq_true (show l.length ≤ 252 by omega)]
      cases okB n <;> cases stB ad st lf <;> rfl)
  rw [hR]
  clear hR h
  generalize okB n = v0 at *
  generalize stB ad st lf = v1 at *
  generalize riseB (-1) l = v2 at *
  generalize l.length = N at *
  obtain ⟨n0, n1, n2, n3, n4, n5, n6, n7⟩ := n
  unfold clV at *
  unfold nmV at *
  dsimp only at *
  have b0 : Below w.heap.size w (w.alloc (.cells #[.int .i64 n0, .int .i64 n1, .int .i64 n2, .int .i64 n3, .int .i64 n4, .int .i64 n5, .int .i64 n6, .bool n7, .int .i64 ad, .int .i64 st, .int .i64 lf, .slice a N cap] 40)) := (Below.refl _ _).alloc (Nat.le_refl _) _
  have HB0 := Lib.hid b0
  have HR0 := Lib.hid (heap_alloc_new w (.cells #[.int .i64 n0, .int .i64 n1, .int .i64 n2, .int .i64 n3, .int .i64 n4, .int .i64 n5, .int .i64 n6, .bool n7, .int .i64 ad, .int .i64 st, .int .i64 lf, .slice a N cap] 40))
  clear b0
  go_enter Tryz.func127, Tryz.ntmps127
  go_wp2_with fail
  refine (HN _).out.mono ?_
  rintro e w1 ⟨rfl, h1⟩
  have HB1 := Lib.hid (HB0.out.trans (h1.mono (by simp)))
  have HR1 := Lib.hid ((h1.block _ (by simp)).trans HR0.out)
  clear h1 HR0 HB0
  cases v0
  · have HO := Lib.hid (show R = false from HR.out.symm.trans rfl)
    go_wp2_with fail
    go_ret
    exact ⟨by rw [HO.out]; rfl, HB1.out⟩
  have m0 := cell_of_row w1 w.heap.size 0 _ _ (0, 0) HR1.out
  have m1 := cell_of_row w1 w.heap.size 1 _ _ (0, 0) HR1.out
  have m2 := cell_of_row w1 w.heap.size 2 _ _ (0, 0) HR1.out
  have m3 := cell_of_row w1 w.heap.size 3 _ _ (0, 0) HR1.out
  have m4 := cell_of_row w1 w.heap.size 4 _ _ (0, 0) HR1.out
  have m5 := cell_of_row w1 w.heap.size 5 _ _ (0, 0) HR1.out
  have m6 := cell_of_row w1 w.heap.size 6 _ _ (0, 0) HR1.out
  have m7 := cell_of_row w1 w.heap.size 7 _ _ (0, 0) HR1.out
  have m8 := cell_of_row w1 w.heap.size 8 _ _ (0, 0) HR1.out
  have m9 := cell_of_row w1 w.heap.size 9 _ _ (0, 0) HR1.out
  have m10 := cell_of_row w1 w.heap.size 10 _ _ (0, 0) HR1.out
  have m11 := cell_of_row w1 w.heap.size 11 _ _ (0, 0) HR1.out
  simp only [List.getElem?_toArray, List.getElem?_cons_zero, List.getElem?_cons_succ] at m0 m1 m2 m3 m4 m5 m6 m7 m8 m9 m10 m11
  go_wp2_with fail
  refine (HS _).out.mono ?_
  rintro e w2 ⟨rfl, h2⟩
  have HB2 := Lib.hid (HB1.out.trans (h2.mono (HB1.out.size)))
  have HR2 := Lib.hid ((h2.block _ (heap_lt HR1.out)).trans HR1.out)
  clear h2 HR1 HB1 m0 m1 m2 m3 m4 m5 m6 m7 m8 m9 m10 m11
  cases v1
  · have HO := Lib.hid (show R = false from HR.out.symm.trans rfl)
    go_wp2_with fail
    go_ret
    exact ⟨by rw [HO.out]; rfl, HB2.out⟩
  have m11 := cell_of_row w2 w.heap.size 11 _ _ (0, 0) HR2.out
  simp only [List.getElem?_toArray, List.getElem?_cons_zero, List.getElem?_cons_succ] at m11
  have HO := Lib.hid (show R = v2 from HR.out.symm.trans (by simp))
  go_wp2_with fail
  refine (HT _ (HI.out.kept HB2.out)).out.mono ?_
  rintro e w3 ⟨rfl, rfl⟩
  go_wp2_with fail
  go_ret
  exact ⟨by rw [HO.out]; rfl, HB2.out⟩
end Go.Proofs.YtioldepgoodipaaGreat
/- Whether a Queue is right, and what waits in it: the program's and the model's. Nothing that was there is written. -/
namespace Go.Proofs.YtioldepgoodipaaGreat
open Go.RowKit
set_option linter.unusedVariables false

/-- That Queue is right. -/
def qRightB (l : List (Int × ByteArray)) : Bool := decide (l.length ≤ 16) && allB l
theorem qRightB_long {l : List (Int × ByteArray)} (h : 16 < l.length) : qRightB l = false := by simp [qRightB]; omega
theorem qRightB_short {l : List (Int × ByteArray)} (h : l.length ≤ 16) : qRightB l = allB l := by simp [qRightB, h]
theorem qRightB_of {l : List (Int × ByteArray)} (h : qRightB l = true) : l.length ≤ 16 ∧ allB l = true := by simpa [qRightB] using h

set_option maxHeartbeats 1000000 in
theorem implQueueRight_any (a : Option Addr) (cap : Nat) (l : List (Int × ByteArray)) (w : World) (h : CansIn w a l) (hok : CansOk l) (hlen : l.length ≤ 1048576) :
    Calls Tryz.prog 128 #[.agg #[.slice a l.length cap]] w fun e w' => e = .returned (.bool (qRightB l)) ∧ Below w.heap.size w w' := by
  have hb0 := fun o : Obj => (Below.refl w.heap.size w).alloc (Nat.le_refl _) o
  have HB := Lib.hid hb0
  have HC := Lib.hid h
  clear hb0 h
  by_cases h16 : l.length ≤ 16
  · have hd : decide ((l.length : Int) ≤ 16) = true := decide_eq_true (by omega)
    have HQ := Lib.hid (qRightB_short h16)
    have HA := fun W hW => Lib.hid (implAllRight_any a cap l W hW hok hlen)
    clear h16
    go_enter Tryz.func128, Tryz.ntmps128
    go_wp2_with fail
    refine (HA _ (HC.out.kept (HB.out _))).out.mono ?_
    rintro e w1 ⟨rfl, h1⟩
    go_wp2
    go_ret
    exact ⟨by rw [HQ.out]; rfl, (HB.out _).trans (h1.mono (by simp))⟩
  · have hd : decide ((l.length : Int) ≤ 16) = false := decide_eq_false (by omega)
    have HQ := Lib.hid (qRightB_long (l := l) (by omega))
    clear h16
    go_enter Tryz.func128, Tryz.ntmps128
    go_wp2_with fail
    go_ret
    exact ⟨by rw [HQ.out]; rfl, HB.out _⟩
set_option maxHeartbeats 1000000 in
theorem specQueueRight_any (a : Option Addr) (cap : Nat) (l : List (Int × ByteArray)) (w : World) (h : CansIn w a l) (hok : CansOk l) (hlen : l.length ≤ 1048576) :
    Calls Tryz.prog 79 #[.agg #[.slice a l.length cap]] w fun e w' => e = .returned (.bool (qRightB l)) ∧ Below w.heap.size w w' := by
  have hb0 := fun o : Obj => (Below.refl w.heap.size w).alloc (Nat.le_refl _) o
  have HB := Lib.hid hb0
  have HC := Lib.hid h
  clear hb0 h
  by_cases h16 : l.length ≤ 16
  · have hd : decide ((l.length : Int) ≤ 16) = true := decide_eq_true (by omega)
    have HQ := Lib.hid (qRightB_short h16)
    have HA := fun W hW => Lib.hid (specAll_any a cap l W hW hok hlen)
    clear h16
    go_enter Tryz.func79, Tryz.ntmps79
    go_wp2_with fail
    refine (HA _ (HC.out.kept (HB.out _))).out.mono ?_
    rintro e w1 ⟨rfl, h1⟩
    go_wp2
    go_ret
    exact ⟨by rw [HQ.out]; rfl, (HB.out _).trans (h1.mono (by simp))⟩
  · have hd : decide ((l.length : Int) ≤ 16) = false := decide_eq_false (by omega)
    have HQ := Lib.hid (qRightB_long (l := l) (by omega))
    clear h16
    go_enter Tryz.func79, Tryz.ntmps79
    go_wp2_with fail
    go_ret
    exact ⟨by rw [HQ.out]; rfl, HB.out _⟩

end Go.Proofs.YtioldepgoodipaaGreat
/- The Name whose bytes a text is: the model's. For every text; nothing that was there is written. -/
namespace Go.Proofs.YtioldepgoodipaaGreat
open Go.RowKit
set_option linter.unusedVariables false

/-- The number of a text's first four bytes, the lowest first. -/
def lo4 (t : ByteArray) : Int := byteAt t 0 + 256 * byteAt t 1 + 65536 * byteAt t 2 + 16777216 * byteAt t 3
/-- The Name that eight bytes may be of. -/
def readNm (t : ByteArray) : Nm := ⟨lo4 t % 2097152, lo4 t / 2097152, byteAt t 4, byteAt t 5, byteAt t 6 / 2, byteAt t 7 % 16, byteAt t 7 / 16 % 8, decide (128 ≤ byteAt t 7)⟩
/-- A Name and a code, as a value. -/
def nmOutV (n : Nm) (c : Int) : Value := .agg #[.int .i64 n.u, .int .i64 n.m, .int .i64 n.i, .int .i64 n.f, .int .i64 n.c, .int .i64 n.s, .int .i64 n.y, .bool n.a, .int .i64 c]
def nm0 : Nm := ⟨0, 0, 0, 0, 0, 0, 0, false⟩
/-- Those are the bytes of a Name. -/
def fromB (t : ByteArray) : Bool := nmBytes (readNm t) == t.toList
/-- What NameFrom answers. -/
def nameFromV (t : ByteArray) : Value := if 8000 < t.size then nmOutV nm0 2 else if t.size ≠ 8 then nmOutV nm0 3 else if fromB t = true then nmOutV (readNm t) 0 else nmOutV nm0 3
end Go.Proofs.YtioldepgoodipaaGreat
/- A right Name comes back from its bytes; of a text that is one's bytes these are the text again; of two right ones that are unlike just one is less. -/
namespace Go.Proofs.YtioldepgoodipaaGreat
open Go.RowKit
set_option linter.unusedVariables false

end Go.Proofs.YtioldepgoodipaaGreat
/- An empty literal of numbers and what is appended to it, and a clone: numbers of the call's own, the world behind each named. -/
namespace Go.Proofs.YtioldepgoodipaaGreat
open Go.RowKit
set_option linter.unusedVariables false

section
variable {P : Program} {ops : Array Oper} {rest : List Oper} {o : Oper} {a : Act} {w : World} {Q : Exit → Act → World → Prop}
end
theorem clone_new (a : Option Addr) (cap : Nat) (l : List Int) (w : World) (h : NumsIn w a l) (hlen : l.length ≤ 1048576) :
    Calls Tryz.prog 147 #[.slice a l.length cap] w fun e w' => ∃ a' c', e = .returned (.slice a' l.length c') ∧ NumsNew w.heap.size w'.heap.size w' a' l ∧ Below w.heap.size w w' :=
  (clone_any a cap l w h hlen).mono fun _ _ ⟨v, h1, h2, h3⟩ => by
    obtain ⟨a', c', rfl, _, hn⟩ := NumsNew.of_owns h2
    exact ⟨a', c', h1, hn, h3⟩
end Go.Proofs.YtioldepgoodipaaGreat
/- A number more among numbers of the call's own: slices.Insert. No other memory is written. -/
namespace Go.Proofs.YtioldepgoodipaaGreat
open Go.RowKit Go.Joins
set_option linter.unusedVariables false

section
variable {P : Program} {ops : Array Oper} {rest : List Oper} {o : Oper} {a : Act} {w : World} {Q : Exit → Act → World → Prop}
end
theorem Insert.one : (Tryz.prog.info? 2).map (·.size) = some 1 := by kernel_rfl
end Go.Proofs.YtioldepgoodipaaGreat
/- Where a number stands among rising ones: slices.BinarySearch. Nothing that was there is written. -/
namespace Go.Proofs.YtioldepgoodipaaGreat
open Go.RowKit Go.Joins
set_option linter.unusedVariables false

end Go.Proofs.YtioldepgoodipaaGreat
/- The next address that is not taken: the model's and the program's; two names alike. Nothing that was there is written. -/
namespace Go.Proofs.YtioldepgoodipaaGreat
open Go.RowKit
set_option linter.unusedVariables false

/-- What nextFree answers. -/
def freeI (l : List Int) (a : Int) : Int := if 251 < l.length then 254 else nextI l a

end Go.Proofs.YtioldepgoodipaaGreat
/- An address more among those that are taken: the model's. Nothing that was there is written. -/
namespace Go.Proofs.YtioldepgoodipaaGreat
open Go.RowKit Go.Joins
set_option linter.unusedVariables false

end Go.Proofs.YtioldepgoodipaaGreat
/- An address more among those that are taken: the program's, and the model's with its answer as numbers. Nothing that was there is written. -/
namespace Go.Proofs.YtioldepgoodipaaGreat
open Go.RowKit
set_option linter.unusedVariables false

/-- What is taken behind a claim of x. -/
def takenI (l : List Int) (x : Int) : List Int := if inB 0 251 x = true then takeI l x else l
end Go.Proofs.YtioldepgoodipaaGreat
/- A tick of a right Claim: the model's. Nothing that was there is written. -/
namespace Go.Proofs.YtioldepgoodipaaGreat
open Go.RowKit
set_option linter.unusedVariables false

set_option maxRecDepth 100000 in
set_option maxHeartbeats 4000000 in
theorem l05Tick_any (n : Nm) (ad st lf : Int) (a : Option Addr) (N cap : Nat) (l : List Int) (w : World) (h : st = 1 → 1 ≤ lf ∧ lf ≤ 250) :
    Calls Tryz.prog 144 #[clV n ad st lf (.slice a N cap)] w fun e w' => e = .returned (clV n ad (tickC ⟨n, ad, st, lf, l⟩).st (tickC ⟨n, ad, st, lf, l⟩).lf (.slice a N cap)) ∧ Below w.heap.size w w' := by
  obtain ⟨n0, n1, n2, n3, n4, n5, n6, n7⟩ := n
  obtain ⟨V, hV⟩ : ∃ V, clV ⟨n0, n1, n2, n3, n4, n5, n6, n7⟩ ad (tickC ⟨⟨n0, n1, n2, n3, n4, n5, n6, n7⟩, ad, st, lf, l⟩).st (tickC ⟨⟨n0, n1, n2, n3, n4, n5, n6, n7⟩, ad, st, lf, l⟩).lf (.slice a N cap) = V := ⟨_, rfl⟩
  rw [hV]
  by_cases s1 : st = 1
  · obtain ⟨l0, l1⟩ := h s1
    have hs : (st == 1) = true := by simpa using s1
    obtain ⟨M, hM⟩ : ∃ M, lf - 1 = M := ⟨_, rfl⟩
    have hw : IntKind.i64.wrap (lf - 1) = M := by rw [IntWalk.i64_in _ (by omega), hM]
    by_cases hz : M = 0
    · have HV := Lib.hid (show .agg #[.int .i64 n0, .int .i64 n1, .int .i64 n2, .int .i64 n3, .int .i64 n4, .int .i64 n5, .int .i64 n6, .bool n7, .int .i64 ad, .int .i64 2, .int .i64 M, .slice a N cap] = V by rw [← hV]; unfold clV; simp [tickC, s1, hM, hz])
      have hz0 : (M == 0) = true := by simpa using hz
      clear h s1 l0 l1 hV hM hz
      unfold clV
      dsimp only
      go_enter Tryz.func144, Tryz.ntmps144
      go_wp2_with (first
        | (refine wpList_box_h rfl 40 (.tmp 0) rfl #[.int .i64 n0, .int .i64 n1, .int .i64 n2, .int .i64 n3, .int .i64 n4, .int .i64 n5, .int .i64 n6, .bool n7, .int .i64 ad, .int .i64 st, .int .i64 lf, .slice a N cap] rfl ?_; intro w1 R1 e1 g1 b1; have HL1 := Lib.hid (show Lv w w1 [(R1, #[.int .i64 n0, .int .i64 n1, .int .i64 n2, .int .i64 n3, .int .i64 n4, .int .i64 n5, .int .i64 n6, .bool n7, .int .i64 ad, .int .i64 st, .int .i64 lf, .slice a N cap], 40)] [] from (Lv.first w).box e1 g1 b1); clear g1 b1 e1)
        | (refine wpList_alloc_h rfl 40 rfl (.agg #[.int .i64 0, .int .i64 0, .int .i64 0, .int .i64 0, .int .i64 0, .int .i64 0, .int .i64 0, .bool false, .int .i64 0, .int .i64 0, .int .i64 0, .slice none 0 0]) (by kernel_rfl) #[.int .i64 0, .int .i64 0, .int .i64 0, .int .i64 0, .int .i64 0, .int .i64 0, .int .i64 0, .bool false, .int .i64 0, .int .i64 0, .int .i64 0, .slice none 0 0] rfl ?_; intro w2 R2 e2 g2 b2; have qR2_R1 : R1 < R2 := Nat.lt_of_lt_of_eq (HL1.out.lt (.head _)) e2; have HL2 := Lib.hid (show Lv w w2 [(R2, #[.int .i64 0, .int .i64 0, .int .i64 0, .int .i64 0, .int .i64 0, .int .i64 0, .int .i64 0, .bool false, .int .i64 0, .int .i64 0, .int .i64 0, .slice none 0 0], 40), (R1, #[.int .i64 n0, .int .i64 n1, .int .i64 n2, .int .i64 n3, .int .i64 n4, .int .i64 n5, .int .i64 n6, .bool n7, .int .i64 ad, .int .i64 st, .int .i64 lf, .slice a N cap], 40)] [] from HL1.out.box e2 g2 b2); clear g2 b2 e2)
        | (refine wpList_load_one rfl 2 (.tmp 3) rfl (R1) 9 rfl 40 #[.int .i64 n0, .int .i64 n1, .int .i64 n2, .int .i64 n3, .int .i64 n4, .int .i64 n5, .int .i64 n6, .bool n7, .int .i64 ad, .int .i64 st, .int .i64 lf, .slice a N cap] (0, 0) (HL2.out.get (.tail _ (.head _))) (.int .i64 st) rfl _ Tryz.underlying2 rfl (by kernel_rfl) ?_)
        | (refine wpList_load_one rfl 2 (.tmp 6) rfl (R1) 10 rfl 40 #[.int .i64 n0, .int .i64 n1, .int .i64 n2, .int .i64 n3, .int .i64 n4, .int .i64 n5, .int .i64 n6, .bool n7, .int .i64 ad, .int .i64 st, .int .i64 lf, .slice a N cap] (0, 0) (HL2.out.get (.tail _ (.head _))) (.int .i64 lf) rfl _ Tryz.underlying2 rfl (by kernel_rfl) ?_)
        | (refine wpList_put_at rfl 2 (.tmp 9) (.tmp 8) rfl rfl (R1) 10 rfl (.int .i64 M) rfl #[.int .i64 M] rfl 40 #[.int .i64 n0, .int .i64 n1, .int .i64 n2, .int .i64 n3, .int .i64 n4, .int .i64 n5, .int .i64 n6, .bool n7, .int .i64 ad, .int .i64 st, .int .i64 lf, .slice a N cap] #[.int .i64 n0, .int .i64 n1, .int .i64 n2, .int .i64 n3, .int .i64 n4, .int .i64 n5, .int .i64 n6, .bool n7, .int .i64 ad, .int .i64 st, .int .i64 M, .slice a N cap] (HL2.out.get (.tail _ (.head _))) (by kernel_rfl) (by kernel_rfl) (by kernel_rfl) (by kernel_rfl) ?_; intro w3 g3 o3; have HL3 := Lib.hid (show Lv w w3 [(R2, #[.int .i64 0, .int .i64 0, .int .i64 0, .int .i64 0, .int .i64 0, .int .i64 0, .int .i64 0, .bool false, .int .i64 0, .int .i64 0, .int .i64 0, .slice none 0 0], 40), (R1, #[.int .i64 n0, .int .i64 n1, .int .i64 n2, .int .i64 n3, .int .i64 n4, .int .i64 n5, .int .i64 n6, .bool n7, .int .i64 ad, .int .i64 st, .int .i64 M, .slice a N cap], 40)] [] from HL2.out.put 1 rfl g3 o3 (List.forall_mem_cons.2 ⟨Nat.ne_of_gt qR2_R1, (fun _ h => nomatch h)⟩) (fun _ h => nomatch h) rfl); clear g3 o3)
        | (refine wpList_load_one rfl 2 (.tmp 10) rfl (R1) 10 rfl 40 #[.int .i64 n0, .int .i64 n1, .int .i64 n2, .int .i64 n3, .int .i64 n4, .int .i64 n5, .int .i64 n6, .bool n7, .int .i64 ad, .int .i64 st, .int .i64 M, .slice a N cap] (0, 0) (HL3.out.get (.tail _ (.head _))) (.int .i64 M) rfl _ Tryz.underlying2 rfl (by kernel_rfl) ?_)
        | (refine wpList_put_at rfl 2 (.tmp 13) (.const (.int .i64 2)) rfl rfl (R1) 9 rfl (.int .i64 2) rfl #[.int .i64 2] rfl 40 #[.int .i64 n0, .int .i64 n1, .int .i64 n2, .int .i64 n3, .int .i64 n4, .int .i64 n5, .int .i64 n6, .bool n7, .int .i64 ad, .int .i64 st, .int .i64 M, .slice a N cap] #[.int .i64 n0, .int .i64 n1, .int .i64 n2, .int .i64 n3, .int .i64 n4, .int .i64 n5, .int .i64 n6, .bool n7, .int .i64 ad, .int .i64 2, .int .i64 M, .slice a N cap] (HL3.out.get (.tail _ (.head _))) (by kernel_rfl) (by kernel_rfl) (by kernel_rfl) (by kernel_rfl) ?_; intro w4 g4 o4; have HL4 := Lib.hid (show Lv w w4 [(R2, #[.int .i64 0, .int .i64 0, .int .i64 0, .int .i64 0, .int .i64 0, .int .i64 0, .int .i64 0, .bool false, .int .i64 0, .int .i64 0, .int .i64 0, .slice none 0 0], 40), (R1, #[.int .i64 n0, .int .i64 n1, .int .i64 n2, .int .i64 n3, .int .i64 n4, .int .i64 n5, .int .i64 n6, .bool n7, .int .i64 ad, .int .i64 2, .int .i64 M, .slice a N cap], 40)] [] from HL3.out.put 1 rfl g4 o4 (List.forall_mem_cons.2 ⟨Nat.ne_of_gt qR2_R1, (fun _ h => nomatch h)⟩) (fun _ h => nomatch h) rfl); clear g4 o4)
        | (refine wpList_load_at rfl 40 (.tmp 1) rfl (R1) 0 rfl 40 #[.int .i64 n0, .int .i64 n1, .int .i64 n2, .int .i64 n3, .int .i64 n4, .int .i64 n5, .int .i64 n6, .bool n7, .int .i64 ad, .int .i64 2, .int .i64 M, .slice a N cap] (0, 0) (HL4.out.get (.tail _ (.head _))) [.int .i64 n0, .int .i64 n1, .int .i64 n2, .int .i64 n3, .int .i64 n4, .int .i64 n5, .int .i64 n6, .bool n7, .int .i64 ad, .int .i64 2, .int .i64 M, .slice a N cap] rfl _ Tryz.underlying40 rfl (by kernel_rfl) ?_)
        | (refine wpList_put_at rfl 40 (.tmp 2) (.tmp 14) rfl rfl (R2) 0 rfl (.agg #[.int .i64 n0, .int .i64 n1, .int .i64 n2, .int .i64 n3, .int .i64 n4, .int .i64 n5, .int .i64 n6, .bool n7, .int .i64 ad, .int .i64 2, .int .i64 M, .slice a N cap]) rfl #[.int .i64 n0, .int .i64 n1, .int .i64 n2, .int .i64 n3, .int .i64 n4, .int .i64 n5, .int .i64 n6, .bool n7, .int .i64 ad, .int .i64 2, .int .i64 M, .slice a N cap] rfl 40 #[.int .i64 0, .int .i64 0, .int .i64 0, .int .i64 0, .int .i64 0, .int .i64 0, .int .i64 0, .bool false, .int .i64 0, .int .i64 0, .int .i64 0, .slice none 0 0] #[.int .i64 n0, .int .i64 n1, .int .i64 n2, .int .i64 n3, .int .i64 n4, .int .i64 n5, .int .i64 n6, .bool n7, .int .i64 ad, .int .i64 2, .int .i64 M, .slice a N cap] (HL4.out.get (.head _)) (by kernel_rfl) (by kernel_rfl) (by kernel_rfl) (by kernel_rfl) ?_; intro w5 g5 o5; have HL5 := Lib.hid (show Lv w w5 [(R2, #[.int .i64 n0, .int .i64 n1, .int .i64 n2, .int .i64 n3, .int .i64 n4, .int .i64 n5, .int .i64 n6, .bool n7, .int .i64 ad, .int .i64 2, .int .i64 M, .slice a N cap], 40), (R1, #[.int .i64 n0, .int .i64 n1, .int .i64 n2, .int .i64 n3, .int .i64 n4, .int .i64 n5, .int .i64 n6, .bool n7, .int .i64 ad, .int .i64 2, .int .i64 M, .slice a N cap], 40)] [] from HL4.out.put 0 rfl g5 o5 (List.forall_mem_cons.2 ⟨Nat.ne_of_lt qR2_R1, (fun _ h => nomatch h)⟩) (fun _ h => nomatch h) rfl); clear g5 o5))
      exact bodyPost_ret (results_cell_row (p := 2) (ty := 40) (by kernel_rfl) _ _ (R2) 40 _ (0, 0) _ rfl (HL5.out.get (.head _)) Tryz.underlying40 rfl (by kernel_rfl)) rfl ⟨by rw [HV.out], HL5.out.below⟩
    · have HV := Lib.hid (show .agg #[.int .i64 n0, .int .i64 n1, .int .i64 n2, .int .i64 n3, .int .i64 n4, .int .i64 n5, .int .i64 n6, .bool n7, .int .i64 ad, .int .i64 st, .int .i64 M, .slice a N cap] = V by rw [← hV]; unfold clV; simp [tickC, s1, hM, hz])
      have hz0 : (M == 0) = false := by simpa using hz
      clear h s1 l0 l1 hV hM hz
      unfold clV
      dsimp only
      go_enter Tryz.func144, Tryz.ntmps144
      go_wp2_with (first
        | (refine wpList_box_h rfl 40 (.tmp 0) rfl #[.int .i64 n0, .int .i64 n1, .int .i64 n2, .int .i64 n3, .int .i64 n4, .int .i64 n5, .int .i64 n6, .bool n7, .int .i64 ad, .int .i64 st, .int .i64 lf, .slice a N cap] rfl ?_; intro w1 R1 e1 g1 b1; have HL1 := Lib.hid (show Lv w w1 [(R1, #[.int .i64 n0, .int .i64 n1, .int .i64 n2, .int .i64 n3, .int .i64 n4, .int .i64 n5, .int .i64 n6, .bool n7, .int .i64 ad, .int .i64 st, .int .i64 lf, .slice a N cap], 40)] [] from (Lv.first w).box e1 g1 b1); clear g1 b1 e1)
        | (refine wpList_alloc_h rfl 40 rfl (.agg #[.int .i64 0, .int .i64 0, .int .i64 0, .int .i64 0, .int .i64 0, .int .i64 0, .int .i64 0, .bool false, .int .i64 0, .int .i64 0, .int .i64 0, .slice none 0 0]) (by kernel_rfl) #[.int .i64 0, .int .i64 0, .int .i64 0, .int .i64 0, .int .i64 0, .int .i64 0, .int .i64 0, .bool false, .int .i64 0, .int .i64 0, .int .i64 0, .slice none 0 0] rfl ?_; intro w2 R2 e2 g2 b2; have qR2_R1 : R1 < R2 := Nat.lt_of_lt_of_eq (HL1.out.lt (.head _)) e2; have HL2 := Lib.hid (show Lv w w2 [(R2, #[.int .i64 0, .int .i64 0, .int .i64 0, .int .i64 0, .int .i64 0, .int .i64 0, .int .i64 0, .bool false, .int .i64 0, .int .i64 0, .int .i64 0, .slice none 0 0], 40), (R1, #[.int .i64 n0, .int .i64 n1, .int .i64 n2, .int .i64 n3, .int .i64 n4, .int .i64 n5, .int .i64 n6, .bool n7, .int .i64 ad, .int .i64 st, .int .i64 lf, .slice a N cap], 40)] [] from HL1.out.box e2 g2 b2); clear g2 b2 e2)
        | (refine wpList_load_one rfl 2 (.tmp 3) rfl (R1) 9 rfl 40 #[.int .i64 n0, .int .i64 n1, .int .i64 n2, .int .i64 n3, .int .i64 n4, .int .i64 n5, .int .i64 n6, .bool n7, .int .i64 ad, .int .i64 st, .int .i64 lf, .slice a N cap] (0, 0) (HL2.out.get (.tail _ (.head _))) (.int .i64 st) rfl _ Tryz.underlying2 rfl (by kernel_rfl) ?_)
        | (refine wpList_load_one rfl 2 (.tmp 6) rfl (R1) 10 rfl 40 #[.int .i64 n0, .int .i64 n1, .int .i64 n2, .int .i64 n3, .int .i64 n4, .int .i64 n5, .int .i64 n6, .bool n7, .int .i64 ad, .int .i64 st, .int .i64 lf, .slice a N cap] (0, 0) (HL2.out.get (.tail _ (.head _))) (.int .i64 lf) rfl _ Tryz.underlying2 rfl (by kernel_rfl) ?_)
        | (refine wpList_put_at rfl 2 (.tmp 9) (.tmp 8) rfl rfl (R1) 10 rfl (.int .i64 M) rfl #[.int .i64 M] rfl 40 #[.int .i64 n0, .int .i64 n1, .int .i64 n2, .int .i64 n3, .int .i64 n4, .int .i64 n5, .int .i64 n6, .bool n7, .int .i64 ad, .int .i64 st, .int .i64 lf, .slice a N cap] #[.int .i64 n0, .int .i64 n1, .int .i64 n2, .int .i64 n3, .int .i64 n4, .int .i64 n5, .int .i64 n6, .bool n7, .int .i64 ad, .int .i64 st, .int .i64 M, .slice a N cap] (HL2.out.get (.tail _ (.head _))) (by kernel_rfl) (by kernel_rfl) (by kernel_rfl) (by kernel_rfl) ?_; intro w3 g3 o3; have HL3 := Lib.hid (show Lv w w3 [(R2, #[.int .i64 0, .int .i64 0, .int .i64 0, .int .i64 0, .int .i64 0, .int .i64 0, .int .i64 0, .bool false, .int .i64 0, .int .i64 0, .int .i64 0, .slice none 0 0], 40), (R1, #[.int .i64 n0, .int .i64 n1, .int .i64 n2, .int .i64 n3, .int .i64 n4, .int .i64 n5, .int .i64 n6, .bool n7, .int .i64 ad, .int .i64 st, .int .i64 M, .slice a N cap], 40)] [] from HL2.out.put 1 rfl g3 o3 (List.forall_mem_cons.2 ⟨Nat.ne_of_gt qR2_R1, (fun _ h => nomatch h)⟩) (fun _ h => nomatch h) rfl); clear g3 o3)
        | (refine wpList_load_one rfl 2 (.tmp 10) rfl (R1) 10 rfl 40 #[.int .i64 n0, .int .i64 n1, .int .i64 n2, .int .i64 n3, .int .i64 n4, .int .i64 n5, .int .i64 n6, .bool n7, .int .i64 ad, .int .i64 st, .int .i64 M, .slice a N cap] (0, 0) (HL3.out.get (.tail _ (.head _))) (.int .i64 M) rfl _ Tryz.underlying2 rfl (by kernel_rfl) ?_)
        | (refine wpList_load_at rfl 40 (.tmp 1) rfl (R1) 0 rfl 40 #[.int .i64 n0, .int .i64 n1, .int .i64 n2, .int .i64 n3, .int .i64 n4, .int .i64 n5, .int .i64 n6, .bool n7, .int .i64 ad, .int .i64 st, .int .i64 M, .slice a N cap] (0, 0) (HL3.out.get (.tail _ (.head _))) [.int .i64 n0, .int .i64 n1, .int .i64 n2, .int .i64 n3, .int .i64 n4, .int .i64 n5, .int .i64 n6, .bool n7, .int .i64 ad, .int .i64 st, .int .i64 M, .slice a N cap] rfl _ Tryz.underlying40 rfl (by kernel_rfl) ?_)
        | (refine wpList_put_at rfl 40 (.tmp 2) (.tmp 14) rfl rfl (R2) 0 rfl (.agg #[.int .i64 n0, .int .i64 n1, .int .i64 n2, .int .i64 n3, .int .i64 n4, .int .i64 n5, .int .i64 n6, .bool n7, .int .i64 ad, .int .i64 st, .int .i64 M, .slice a N cap]) rfl #[.int .i64 n0, .int .i64 n1, .int .i64 n2, .int .i64 n3, .int .i64 n4, .int .i64 n5, .int .i64 n6, .bool n7, .int .i64 ad, .int .i64 st, .int .i64 M, .slice a N cap] rfl 40 #[.int .i64 0, .int .i64 0, .int .i64 0, .int .i64 0, .int .i64 0, .int .i64 0, .int .i64 0, .bool false, .int .i64 0, .int .i64 0, .int .i64 0, .slice none 0 0] #[.int .i64 n0, .int .i64 n1, .int .i64 n2, .int .i64 n3, .int .i64 n4, .int .i64 n5, .int .i64 n6, .bool n7, .int .i64 ad, .int .i64 st, .int .i64 M, .slice a N cap] (HL3.out.get (.head _)) (by kernel_rfl) (by kernel_rfl) (by kernel_rfl) (by kernel_rfl) ?_; intro w4 g4 o4; have HL4 := Lib.hid (show Lv w w4 [(R2, #[.int .i64 n0, .int .i64 n1, .int .i64 n2, .int .i64 n3, .int .i64 n4, .int .i64 n5, .int .i64 n6, .bool n7, .int .i64 ad, .int .i64 st, .int .i64 M, .slice a N cap], 40), (R1, #[.int .i64 n0, .int .i64 n1, .int .i64 n2, .int .i64 n3, .int .i64 n4, .int .i64 n5, .int .i64 n6, .bool n7, .int .i64 ad, .int .i64 st, .int .i64 M, .slice a N cap], 40)] [] from HL3.out.put 0 rfl g4 o4 (List.forall_mem_cons.2 ⟨Nat.ne_of_lt qR2_R1, (fun _ h => nomatch h)⟩) (fun _ h => nomatch h) rfl); clear g4 o4))
      exact bodyPost_ret (results_cell_row (p := 2) (ty := 40) (by kernel_rfl) _ _ (R2) 40 _ (0, 0) _ rfl (HL4.out.get (.head _)) Tryz.underlying40 rfl (by kernel_rfl)) rfl ⟨by rw [HV.out], HL4.out.below⟩
  · have hs : (st == 1) = false := by simpa using s1
    have HV := Lib.hid (show .agg #[.int .i64 n0, .int .i64 n1, .int .i64 n2, .int .i64 n3, .int .i64 n4, .int .i64 n5, .int .i64 n6, .bool n7, .int .i64 ad, .int .i64 st, .int .i64 lf, .slice a N cap] = V by rw [← hV]; unfold clV; simp [tickC, s1])
    clear h s1 hV
    unfold clV
    dsimp only
    go_enter Tryz.func144, Tryz.ntmps144
    go_wp2_with (first
      | (refine wpList_box_h rfl 40 (.tmp 0) rfl #[.int .i64 n0, .int .i64 n1, .int .i64 n2, .int .i64 n3, .int .i64 n4, .int .i64 n5, .int .i64 n6, .bool n7, .int .i64 ad, .int .i64 st, .int .i64 lf, .slice a N cap] rfl ?_; intro w1 R1 e1 g1 b1; have HL1 := Lib.hid (show Lv w w1 [(R1, #[.int .i64 n0, .int .i64 n1, .int .i64 n2, .int .i64 n3, .int .i64 n4, .int .i64 n5, .int .i64 n6, .bool n7, .int .i64 ad, .int .i64 st, .int .i64 lf, .slice a N cap], 40)] [] from (Lv.first w).box e1 g1 b1); clear g1 b1 e1)
      | (refine wpList_alloc_h rfl 40 rfl (.agg #[.int .i64 0, .int .i64 0, .int .i64 0, .int .i64 0, .int .i64 0, .int .i64 0, .int .i64 0, .bool false, .int .i64 0, .int .i64 0, .int .i64 0, .slice none 0 0]) (by kernel_rfl) #[.int .i64 0, .int .i64 0, .int .i64 0, .int .i64 0, .int .i64 0, .int .i64 0, .int .i64 0, .bool false, .int .i64 0, .int .i64 0, .int .i64 0, .slice none 0 0] rfl ?_; intro w2 R2 e2 g2 b2; have qR2_R1 : R1 < R2 := Nat.lt_of_lt_of_eq (HL1.out.lt (.head _)) e2; have HL2 := Lib.hid (show Lv w w2 [(R2, #[.int .i64 0, .int .i64 0, .int .i64 0, .int .i64 0, .int .i64 0, .int .i64 0, .int .i64 0, .bool false, .int .i64 0, .int .i64 0, .int .i64 0, .slice none 0 0], 40), (R1, #[.int .i64 n0, .int .i64 n1, .int .i64 n2, .int .i64 n3, .int .i64 n4, .int .i64 n5, .int .i64 n6, .bool n7, .int .i64 ad, .int .i64 st, .int .i64 lf, .slice a N cap], 40)] [] from HL1.out.box e2 g2 b2); clear g2 b2 e2)
      | (refine wpList_load_one rfl 2 (.tmp 3) rfl (R1) 9 rfl 40 #[.int .i64 n0, .int .i64 n1, .int .i64 n2, .int .i64 n3, .int .i64 n4, .int .i64 n5, .int .i64 n6, .bool n7, .int .i64 ad, .int .i64 st, .int .i64 lf, .slice a N cap] (0, 0) (HL2.out.get (.tail _ (.head _))) (.int .i64 st) rfl _ Tryz.underlying2 rfl (by kernel_rfl) ?_)
      | (refine wpList_load_at rfl 40 (.tmp 1) rfl (R1) 0 rfl 40 #[.int .i64 n0, .int .i64 n1, .int .i64 n2, .int .i64 n3, .int .i64 n4, .int .i64 n5, .int .i64 n6, .bool n7, .int .i64 ad, .int .i64 st, .int .i64 lf, .slice a N cap] (0, 0) (HL2.out.get (.tail _ (.head _))) [.int .i64 n0, .int .i64 n1, .int .i64 n2, .int .i64 n3, .int .i64 n4, .int .i64 n5, .int .i64 n6, .bool n7, .int .i64 ad, .int .i64 st, .int .i64 lf, .slice a N cap] rfl _ Tryz.underlying40 rfl (by kernel_rfl) ?_)
      | (refine wpList_put_at rfl 40 (.tmp 2) (.tmp 14) rfl rfl (R2) 0 rfl (.agg #[.int .i64 n0, .int .i64 n1, .int .i64 n2, .int .i64 n3, .int .i64 n4, .int .i64 n5, .int .i64 n6, .bool n7, .int .i64 ad, .int .i64 st, .int .i64 lf, .slice a N cap]) rfl #[.int .i64 n0, .int .i64 n1, .int .i64 n2, .int .i64 n3, .int .i64 n4, .int .i64 n5, .int .i64 n6, .bool n7, .int .i64 ad, .int .i64 st, .int .i64 lf, .slice a N cap] rfl 40 #[.int .i64 0, .int .i64 0, .int .i64 0, .int .i64 0, .int .i64 0, .int .i64 0, .int .i64 0, .bool false, .int .i64 0, .int .i64 0, .int .i64 0, .slice none 0 0] #[.int .i64 n0, .int .i64 n1, .int .i64 n2, .int .i64 n3, .int .i64 n4, .int .i64 n5, .int .i64 n6, .bool n7, .int .i64 ad, .int .i64 st, .int .i64 lf, .slice a N cap] (HL2.out.get (.head _)) (by kernel_rfl) (by kernel_rfl) (by kernel_rfl) (by kernel_rfl) ?_; intro w3 g3 o3; have HL3 := Lib.hid (show Lv w w3 [(R2, #[.int .i64 n0, .int .i64 n1, .int .i64 n2, .int .i64 n3, .int .i64 n4, .int .i64 n5, .int .i64 n6, .bool n7, .int .i64 ad, .int .i64 st, .int .i64 lf, .slice a N cap], 40), (R1, #[.int .i64 n0, .int .i64 n1, .int .i64 n2, .int .i64 n3, .int .i64 n4, .int .i64 n5, .int .i64 n6, .bool n7, .int .i64 ad, .int .i64 st, .int .i64 lf, .slice a N cap], 40)] [] from HL2.out.put 0 rfl g3 o3 (List.forall_mem_cons.2 ⟨Nat.ne_of_lt qR2_R1, (fun _ h => nomatch h)⟩) (fun _ h => nomatch h) rfl); clear g3 o3))
    exact bodyPost_ret (results_cell_row (p := 2) (ty := 40) (by kernel_rfl) _ _ (R2) 40 _ (0, 0) _ rfl (HL3.out.get (.head _)) Tryz.underlying40 rfl (by kernel_rfl)) rfl ⟨by rw [HV.out], HL3.out.below⟩
end Go.Proofs.YtioldepgoodipaaGreat
/- A tick of a Claim: the model's and the program's. Nothing that was there is written. -/
namespace Go.Proofs.YtioldepgoodipaaGreat
open Go.RowKit
set_option linter.unusedVariables false

/-- The Claim of which nothing is said. -/
def zeroCl : Cl := ⟨⟨0, 0, 0, 0, 0, 0, 0, false⟩, 0, 0, 0, []⟩
/-- The answer is that Claim, in memory of its own, with that Send and that Code. -/
def ClOut (w : World) (c : Cl) (s : Bool) (k : Int) (e : Ending) (w' : World) : Prop :=
  ∃ a cap, e = .returned (clOutV c.n c.ad c.st c.lf (.slice a c.tk.length cap) s k) ∧ NumsNew w.heap.size w'.heap.size w' a c.tk ∧ Below w.heap.size w w'
/-- What a tick answers. -/
def tickO (c : Cl) : Cl × Int := if clB c = true then (tickC c, 0) else (zeroCl, 1)
theorem tickC_form (n : Nm) (ad st lf : Int) (l : List Int) : tickC ⟨n, ad, st, lf, l⟩ = ⟨n, ad, (tickC ⟨n, ad, st, lf, l⟩).st, (tickC ⟨n, ad, st, lf, l⟩).lf, l⟩ := by
  unfold tickC
  split <;> rfl
set_option maxRecDepth 100000 in
set_option maxHeartbeats 8000000 in
theorem implClaimTick_any (n : Nm) (ad st lf : Int) (a : Option Addr) (cap : Nat) (l : List Int) (w : World) (h : NumsIn w a l) (hlen : l.length ≤ 1048576) :
    Calls Tryz.prog 71 #[clV n ad st lf (.slice a l.length cap)] w (ClOut w (tickO ⟨n, ad, st, lf, l⟩).1 false (tickO ⟨n, ad, st, lf, l⟩).2) := by
  obtain ⟨i0, hi0, hz0, hz1, hz2⟩ := info_parts NumsTo.info
  have HI0 := Lib.hid hi0
  have HC := fun W hW => Lib.hid (implClaimRight_any n ad st lf a cap l W hW hlen)
  have HI := Lib.hid h
  clear h hi0
  unfold ClOut
  rcases hcl : clB ⟨n, ad, st, lf, l⟩
  · rw [hcl] at HC
    unfold tickO
    rw [if_neg (by rw [hcl]; simp)]
    unfold zeroCl
    clear hcl
    obtain ⟨n0, n1, n2, n3, n4, n5, n6, n7⟩ := n
    unfold clV at *
    unfold clOutV
    dsimp only at *
    go_enter Tryz.func71, Tryz.ntmps71
    go_wp2_with (first
      | (refine wpList_box_h rfl 40 (.tmp 0) rfl #[.int .i64 n0, .int .i64 n1, .int .i64 n2, .int .i64 n3, .int .i64 n4, .int .i64 n5, .int .i64 n6, .bool n7, .int .i64 ad, .int .i64 st, .int .i64 lf, .slice a l.length cap] rfl ?_; intro w1 R1 e1 g1 b1; have HL1 := Lib.hid (show Lv w w1 [(R1, #[.int .i64 n0, .int .i64 n1, .int .i64 n2, .int .i64 n3, .int .i64 n4, .int .i64 n5, .int .i64 n6, .bool n7, .int .i64 ad, .int .i64 st, .int .i64 lf, .slice a l.length cap], 40)] [] from (Lv.first w).box e1 g1 b1); clear g1 b1 e1)
      | (refine wpList_alloc_h rfl 127 rfl (.agg #[.int .i64 0, .int .i64 0, .int .i64 0, .int .i64 0, .int .i64 0, .int .i64 0, .int .i64 0, .bool false, .int .i64 0, .int .i64 0, .int .i64 0, .slice none 0 0, .bool false, .int .i64 0]) (by kernel_rfl) #[.int .i64 0, .int .i64 0, .int .i64 0, .int .i64 0, .int .i64 0, .int .i64 0, .int .i64 0, .bool false, .int .i64 0, .int .i64 0, .int .i64 0, .slice none 0 0, .bool false, .int .i64 0] rfl ?_; intro w2 R2 e2 g2 b2; have qR2_R1 : R1 < R2 := Nat.lt_of_lt_of_eq (HL1.out.lt (.head _)) e2; have HL2 := Lib.hid (show Lv w w2 [(R2, #[.int .i64 0, .int .i64 0, .int .i64 0, .int .i64 0, .int .i64 0, .int .i64 0, .int .i64 0, .bool false, .int .i64 0, .int .i64 0, .int .i64 0, .slice none 0 0, .bool false, .int .i64 0], 127), (R1, #[.int .i64 n0, .int .i64 n1, .int .i64 n2, .int .i64 n3, .int .i64 n4, .int .i64 n5, .int .i64 n6, .bool n7, .int .i64 ad, .int .i64 st, .int .i64 lf, .slice a l.length cap], 40)] [] from HL1.out.box e2 g2 b2); clear g2 b2 e2)
      | (refine wpList_load_at rfl 40 (.tmp 1) rfl (R1) 0 rfl 40 #[.int .i64 n0, .int .i64 n1, .int .i64 n2, .int .i64 n3, .int .i64 n4, .int .i64 n5, .int .i64 n6, .bool n7, .int .i64 ad, .int .i64 st, .int .i64 lf, .slice a l.length cap] (0, 0) (HL2.out.get (.tail _ (.head _))) [.int .i64 n0, .int .i64 n1, .int .i64 n2, .int .i64 n3, .int .i64 n4, .int .i64 n5, .int .i64 n6, .bool n7, .int .i64 ad, .int .i64 st, .int .i64 lf, .slice a l.length cap] rfl _ Tryz.underlying40 rfl (by kernel_rfl) ?_))
    refine ((HC _ (HI.out.kept HL2.out.below)).out).mono ?_
    rintro e w3 ⟨rfl, h⟩
    have HL3 := Lib.hid (show Lv w w3 [(R2, #[.int .i64 0, .int .i64 0, .int .i64 0, .int .i64 0, .int .i64 0, .int .i64 0, .int .i64 0, .bool false, .int .i64 0, .int .i64 0, .int .i64 0, .slice none 0 0, .bool false, .int .i64 0], 127), (R1, #[.int .i64 n0, .int .i64 n1, .int .i64 n2, .int .i64 n3, .int .i64 n4, .int .i64 n5, .int .i64 n6, .bool n7, .int .i64 ad, .int .i64 st, .int .i64 lf, .slice a l.length cap], 40)] [] from HL2.out.kept h)
    clear h
    go_wp2_with (first
      | (refine wpList_put_at rfl 127 (.tmp 2) (.tmp 6) rfl rfl (R2) 0 rfl (.agg #[.int .i64 0, .int .i64 0, .int .i64 0, .int .i64 0, .int .i64 0, .int .i64 0, .int .i64 0, .bool false, .int .i64 0, .int .i64 0, .int .i64 0, .slice none 0 0, .bool false, .int .i64 1]) rfl #[.int .i64 0, .int .i64 0, .int .i64 0, .int .i64 0, .int .i64 0, .int .i64 0, .int .i64 0, .bool false, .int .i64 0, .int .i64 0, .int .i64 0, .slice none 0 0, .bool false, .int .i64 1] rfl 127 #[.int .i64 0, .int .i64 0, .int .i64 0, .int .i64 0, .int .i64 0, .int .i64 0, .int .i64 0, .bool false, .int .i64 0, .int .i64 0, .int .i64 0, .slice none 0 0, .bool false, .int .i64 0] #[.int .i64 0, .int .i64 0, .int .i64 0, .int .i64 0, .int .i64 0, .int .i64 0, .int .i64 0, .bool false, .int .i64 0, .int .i64 0, .int .i64 0, .slice none 0 0, .bool false, .int .i64 1] (HL3.out.get (.head _)) (by kernel_rfl) (by kernel_rfl) (by kernel_rfl) (by kernel_rfl) ?_; intro w4 g4 o4; have HL4 := Lib.hid (show Lv w w4 [(R2, #[.int .i64 0, .int .i64 0, .int .i64 0, .int .i64 0, .int .i64 0, .int .i64 0, .int .i64 0, .bool false, .int .i64 0, .int .i64 0, .int .i64 0, .slice none 0 0, .bool false, .int .i64 1], 127), (R1, #[.int .i64 n0, .int .i64 n1, .int .i64 n2, .int .i64 n3, .int .i64 n4, .int .i64 n5, .int .i64 n6, .bool n7, .int .i64 ad, .int .i64 st, .int .i64 lf, .slice a l.length cap], 40)] [] from HL3.out.put 0 rfl g4 o4 (List.forall_mem_cons.2 ⟨Nat.ne_of_lt qR2_R1, (fun _ h => nomatch h)⟩) (fun _ h => nomatch h) rfl); clear g4 o4))
    exact bodyPost_ret (results_cell_row (p := 2) (ty := 127) (by kernel_rfl) _ _ (R2) 127 _ (0, 0) _ rfl (HL4.out.get (.head _)) Tryz.underlying127 rfl (by kernel_rfl)) rfl ⟨none, 0, rfl, NumsNew.nil _, HL4.out.below⟩
  have hb := stateB_of (clB_of hcl).2.2.2
  have hb1 : st = 1 → 1 ≤ lf ∧ lf ≤ 250 := fun h1 => by
    rcases hb with ⟨_, _, h⟩ | ⟨h, _⟩ | ⟨h, _⟩
    · exact h
    · have h : st = 2 := h
      omega
    · have h : st = 3 := h
      omega
  rw [hcl] at HC
  unfold tickO
  rw [if_pos hcl, tickC_form]
  clear hcl hb
  have HK := fun W hW => Lib.hid (clone_new a cap l W hW hlen)
  by_cases s1 : st = 1
  · obtain ⟨l0, l1⟩ := hb1 s1
    have hs : (st == 1) = true := by simpa using s1
    obtain ⟨M, hM⟩ : ∃ M, lf - 1 = M := ⟨_, rfl⟩
    have hw : IntKind.i64.wrap (lf - 1) = M := by rw [IntWalk.i64_in _ (by omega), hM]
    by_cases hz : M = 0
    · have e1 : (tickC ⟨n, ad, st, lf, l⟩).st = 2 := by simp [tickC, s1, hM, hz]
      have e2 : (tickC ⟨n, ad, st, lf, l⟩).lf = M := by simp [tickC, s1, hM]
      rw [e1, e2]
      have hz0 : (M == 0) = true := by simpa using hz
      clear s1 l0 l1 hM hz hb1 e1 e2
      obtain ⟨n0, n1, n2, n3, n4, n5, n6, n7⟩ := n
      unfold clV at *
      unfold clOutV
      dsimp only at *
      go_enter Tryz.func71, Tryz.ntmps71
      go_wp2_with (first
        | (refine wpList_box_h rfl 40 (.tmp 0) rfl #[.int .i64 n0, .int .i64 n1, .int .i64 n2, .int .i64 n3, .int .i64 n4, .int .i64 n5, .int .i64 n6, .bool n7, .int .i64 ad, .int .i64 st, .int .i64 lf, .slice a l.length cap] rfl ?_; intro w1 R1 e1 g1 b1; have HL1 := Lib.hid (show Lv w w1 [(R1, #[.int .i64 n0, .int .i64 n1, .int .i64 n2, .int .i64 n3, .int .i64 n4, .int .i64 n5, .int .i64 n6, .bool n7, .int .i64 ad, .int .i64 st, .int .i64 lf, .slice a l.length cap], 40)] [] from (Lv.first w).box e1 g1 b1); clear g1 b1 e1)
        | (refine wpList_alloc_h rfl 127 rfl (.agg #[.int .i64 0, .int .i64 0, .int .i64 0, .int .i64 0, .int .i64 0, .int .i64 0, .int .i64 0, .bool false, .int .i64 0, .int .i64 0, .int .i64 0, .slice none 0 0, .bool false, .int .i64 0]) (by kernel_rfl) #[.int .i64 0, .int .i64 0, .int .i64 0, .int .i64 0, .int .i64 0, .int .i64 0, .int .i64 0, .bool false, .int .i64 0, .int .i64 0, .int .i64 0, .slice none 0 0, .bool false, .int .i64 0] rfl ?_; intro w2 R2 e2 g2 b2; have qR2_R1 : R1 < R2 := Nat.lt_of_lt_of_eq (HL1.out.lt (.head _)) e2; have HL2 := Lib.hid (show Lv w w2 [(R2, #[.int .i64 0, .int .i64 0, .int .i64 0, .int .i64 0, .int .i64 0, .int .i64 0, .int .i64 0, .bool false, .int .i64 0, .int .i64 0, .int .i64 0, .slice none 0 0, .bool false, .int .i64 0], 127), (R1, #[.int .i64 n0, .int .i64 n1, .int .i64 n2, .int .i64 n3, .int .i64 n4, .int .i64 n5, .int .i64 n6, .bool n7, .int .i64 ad, .int .i64 st, .int .i64 lf, .slice a l.length cap], 40)] [] from HL1.out.box e2 g2 b2); clear g2 b2 e2)
        | (refine wpList_load_at rfl 40 (.tmp 1) rfl (R1) 0 rfl 40 #[.int .i64 n0, .int .i64 n1, .int .i64 n2, .int .i64 n3, .int .i64 n4, .int .i64 n5, .int .i64 n6, .bool n7, .int .i64 ad, .int .i64 st, .int .i64 lf, .slice a l.length cap] (0, 0) (HL2.out.get (.tail _ (.head _))) [.int .i64 n0, .int .i64 n1, .int .i64 n2, .int .i64 n3, .int .i64 n4, .int .i64 n5, .int .i64 n6, .bool n7, .int .i64 ad, .int .i64 st, .int .i64 lf, .slice a l.length cap] rfl _ Tryz.underlying40 rfl (by kernel_rfl) ?_))
      refine ((HC _ (HI.out.kept HL2.out.below)).out).mono ?_
      rintro e w3 ⟨rfl, h⟩
      have HL3 := Lib.hid (show Lv w w3 [(R2, #[.int .i64 0, .int .i64 0, .int .i64 0, .int .i64 0, .int .i64 0, .int .i64 0, .int .i64 0, .bool false, .int .i64 0, .int .i64 0, .int .i64 0, .slice none 0 0, .bool false, .int .i64 0], 127), (R1, #[.int .i64 n0, .int .i64 n1, .int .i64 n2, .int .i64 n3, .int .i64 n4, .int .i64 n5, .int .i64 n6, .bool n7, .int .i64 ad, .int .i64 st, .int .i64 lf, .slice a l.length cap], 40)] [] from HL2.out.kept h)
      clear h
      go_wp2_with (first
        | (refine wpList_load_one rfl 24 (.tmp 7) rfl (R1) 11 rfl 40 #[.int .i64 n0, .int .i64 n1, .int .i64 n2, .int .i64 n3, .int .i64 n4, .int .i64 n5, .int .i64 n6, .bool n7, .int .i64 ad, .int .i64 st, .int .i64 lf, .slice a l.length cap] (0, 0) (HL3.out.get (.tail _ (.head _))) (.slice a l.length cap) rfl _ Tryz.underlying24 rfl (by kernel_rfl) ?_)
        | (go_at_call 147; refine ((HK _ (HI.out.kept HL3.out.below)).out).mono ?_; rintro e w4 ⟨a4, c4, rfl, hn, h⟩; obtain ⟨L4, e4⟩ : ∃ x, w3.heap.size = x := ⟨_, rfl⟩; obtain ⟨H4, f4⟩ : ∃ x, w4.heap.size = x := ⟨_, rfl⟩; have qL4_R2 : R2 < L4 := Nat.lt_of_lt_of_eq (HL3.out.lt (.head _)) e4; have qL4_R1 : R1 < L4 := Nat.lt_of_lt_of_eq (HL3.out.lt (.tail _ (.head _))) e4; have qH4_L4 : L4 ≤ H4 := (by rw [← e4, ← f4]; exact h.size); have HL4 := Lib.hid (show Lv w w4 [(R2, #[.int .i64 0, .int .i64 0, .int .i64 0, .int .i64 0, .int .i64 0, .int .i64 0, .int .i64 0, .bool false, .int .i64 0, .int .i64 0, .int .i64 0, .slice none 0 0, .bool false, .int .i64 0], 127), (R1, #[.int .i64 n0, .int .i64 n1, .int .i64 n2, .int .i64 n3, .int .i64 n4, .int .i64 n5, .int .i64 n6, .bool n7, .int .i64 ad, .int .i64 st, .int .i64 lf, .slice a l.length cap], 40)] [(L4, H4, a4, l)] from HL3.out.made e4 f4 h hn); clear h hn e4 f4)
        | (refine wpList_put_at rfl 24 (.tmp 10) (.tmp 9) rfl rfl (R1) 11 rfl ((.slice a4 l.length c4)) rfl #[(.slice a4 l.length c4)] rfl 40 #[.int .i64 n0, .int .i64 n1, .int .i64 n2, .int .i64 n3, .int .i64 n4, .int .i64 n5, .int .i64 n6, .bool n7, .int .i64 ad, .int .i64 st, .int .i64 lf, .slice a l.length cap] #[.int .i64 n0, .int .i64 n1, .int .i64 n2, .int .i64 n3, .int .i64 n4, .int .i64 n5, .int .i64 n6, .bool n7, .int .i64 ad, .int .i64 st, .int .i64 lf, (.slice a4 l.length c4)] (HL4.out.get (.tail _ (.head _))) (by kernel_rfl) (by kernel_rfl) (by kernel_rfl) (by kernel_rfl) ?_; intro w5 g5 o5; have HL5 := Lib.hid (show Lv w w5 [(R2, #[.int .i64 0, .int .i64 0, .int .i64 0, .int .i64 0, .int .i64 0, .int .i64 0, .int .i64 0, .bool false, .int .i64 0, .int .i64 0, .int .i64 0, .slice none 0 0, .bool false, .int .i64 0], 127), (R1, #[.int .i64 n0, .int .i64 n1, .int .i64 n2, .int .i64 n3, .int .i64 n4, .int .i64 n5, .int .i64 n6, .bool n7, .int .i64 ad, .int .i64 st, .int .i64 lf, (.slice a4 l.length c4)], 40)] [(L4, H4, a4, l)] from HL4.out.put 1 rfl g5 o5 (List.forall_mem_cons.2 ⟨Nat.ne_of_gt qR2_R1, (fun _ h => nomatch h)⟩) (List.forall_mem_cons.2 ⟨.inr qL4_R1, (fun _ h => nomatch h)⟩) rfl); clear g5 o5)
        | (refine wpList_load_one rfl 2 (.tmp 11) rfl (R1) 9 rfl 40 #[.int .i64 n0, .int .i64 n1, .int .i64 n2, .int .i64 n3, .int .i64 n4, .int .i64 n5, .int .i64 n6, .bool n7, .int .i64 ad, .int .i64 st, .int .i64 lf, (.slice a4 l.length c4)] (0, 0) (HL5.out.get (.tail _ (.head _))) (.int .i64 st) rfl _ Tryz.underlying2 rfl (by kernel_rfl) ?_)
        | (refine wpList_load_one rfl 2 (.tmp 14) rfl (R1) 10 rfl 40 #[.int .i64 n0, .int .i64 n1, .int .i64 n2, .int .i64 n3, .int .i64 n4, .int .i64 n5, .int .i64 n6, .bool n7, .int .i64 ad, .int .i64 st, .int .i64 lf, (.slice a4 l.length c4)] (0, 0) (HL5.out.get (.tail _ (.head _))) (.int .i64 lf) rfl _ Tryz.underlying2 rfl (by kernel_rfl) ?_)
        | (refine wpList_put_at rfl 2 (.tmp 17) (.tmp 16) rfl rfl (R1) 10 rfl (.int .i64 M) rfl #[.int .i64 M] rfl 40 #[.int .i64 n0, .int .i64 n1, .int .i64 n2, .int .i64 n3, .int .i64 n4, .int .i64 n5, .int .i64 n6, .bool n7, .int .i64 ad, .int .i64 st, .int .i64 lf, (.slice a4 l.length c4)] #[.int .i64 n0, .int .i64 n1, .int .i64 n2, .int .i64 n3, .int .i64 n4, .int .i64 n5, .int .i64 n6, .bool n7, .int .i64 ad, .int .i64 st, .int .i64 M, (.slice a4 l.length c4)] (HL5.out.get (.tail _ (.head _))) (by kernel_rfl) (by kernel_rfl) (by kernel_rfl) (by kernel_rfl) ?_; intro w6 g6 o6; have HL6 := Lib.hid (show Lv w w6 [(R2, #[.int .i64 0, .int .i64 0, .int .i64 0, .int .i64 0, .int .i64 0, .int .i64 0, .int .i64 0, .bool false, .int .i64 0, .int .i64 0, .int .i64 0, .slice none 0 0, .bool false, .int .i64 0], 127), (R1, #[.int .i64 n0, .int .i64 n1, .int .i64 n2, .int .i64 n3, .int .i64 n4, .int .i64 n5, .int .i64 n6, .bool n7, .int .i64 ad, .int .i64 st, .int .i64 M, (.slice a4 l.length c4)], 40)] [(L4, H4, a4, l)] from HL5.out.put 1 rfl g6 o6 (List.forall_mem_cons.2 ⟨Nat.ne_of_gt qR2_R1, (fun _ h => nomatch h)⟩) (List.forall_mem_cons.2 ⟨.inr qL4_R1, (fun _ h => nomatch h)⟩) rfl); clear g6 o6)
        | (refine wpList_load_one rfl 2 (.tmp 18) rfl (R1) 10 rfl 40 #[.int .i64 n0, .int .i64 n1, .int .i64 n2, .int .i64 n3, .int .i64 n4, .int .i64 n5, .int .i64 n6, .bool n7, .int .i64 ad, .int .i64 st, .int .i64 M, (.slice a4 l.length c4)] (0, 0) (HL6.out.get (.tail _ (.head _))) (.int .i64 M) rfl _ Tryz.underlying2 rfl (by kernel_rfl) ?_)
        | (refine wpList_put_at rfl 2 (.tmp 21) (.const (.int .i64 2)) rfl rfl (R1) 9 rfl (.int .i64 2) rfl #[.int .i64 2] rfl 40 #[.int .i64 n0, .int .i64 n1, .int .i64 n2, .int .i64 n3, .int .i64 n4, .int .i64 n5, .int .i64 n6, .bool n7, .int .i64 ad, .int .i64 st, .int .i64 M, (.slice a4 l.length c4)] #[.int .i64 n0, .int .i64 n1, .int .i64 n2, .int .i64 n3, .int .i64 n4, .int .i64 n5, .int .i64 n6, .bool n7, .int .i64 ad, .int .i64 2, .int .i64 M, (.slice a4 l.length c4)] (HL6.out.get (.tail _ (.head _))) (by kernel_rfl) (by kernel_rfl) (by kernel_rfl) (by kernel_rfl) ?_; intro w7 g7 o7; have HL7 := Lib.hid (show Lv w w7 [(R2, #[.int .i64 0, .int .i64 0, .int .i64 0, .int .i64 0, .int .i64 0, .int .i64 0, .int .i64 0, .bool false, .int .i64 0, .int .i64 0, .int .i64 0, .slice none 0 0, .bool false, .int .i64 0], 127), (R1, #[.int .i64 n0, .int .i64 n1, .int .i64 n2, .int .i64 n3, .int .i64 n4, .int .i64 n5, .int .i64 n6, .bool n7, .int .i64 ad, .int .i64 2, .int .i64 M, (.slice a4 l.length c4)], 40)] [(L4, H4, a4, l)] from HL6.out.put 1 rfl g7 o7 (List.forall_mem_cons.2 ⟨Nat.ne_of_gt qR2_R1, (fun _ h => nomatch h)⟩) (List.forall_mem_cons.2 ⟨.inr qL4_R1, (fun _ h => nomatch h)⟩) rfl); clear g7 o7)
        | (refine wpList_load_at rfl 40 (.tmp 1) rfl (R1) 0 rfl 40 #[.int .i64 n0, .int .i64 n1, .int .i64 n2, .int .i64 n3, .int .i64 n4, .int .i64 n5, .int .i64 n6, .bool n7, .int .i64 ad, .int .i64 2, .int .i64 M, (.slice a4 l.length c4)] (0, 0) (HL7.out.get (.tail _ (.head _))) [.int .i64 n0, .int .i64 n1, .int .i64 n2, .int .i64 n3, .int .i64 n4, .int .i64 n5, .int .i64 n6, .bool n7, .int .i64 ad, .int .i64 2, .int .i64 M, (.slice a4 l.length c4)] rfl _ Tryz.underlying40 rfl (by kernel_rfl) ?_)
        | (refine wpList_put_at rfl 127 (.tmp 2) (.tmp 23) rfl rfl (R2) 0 rfl (.agg #[.int .i64 n0, .int .i64 n1, .int .i64 n2, .int .i64 n3, .int .i64 n4, .int .i64 n5, .int .i64 n6, .bool n7, .int .i64 ad, .int .i64 2, .int .i64 M, (.slice a4 l.length c4), .bool false, .int .i64 0]) rfl #[.int .i64 n0, .int .i64 n1, .int .i64 n2, .int .i64 n3, .int .i64 n4, .int .i64 n5, .int .i64 n6, .bool n7, .int .i64 ad, .int .i64 2, .int .i64 M, (.slice a4 l.length c4), .bool false, .int .i64 0] rfl 127 #[.int .i64 0, .int .i64 0, .int .i64 0, .int .i64 0, .int .i64 0, .int .i64 0, .int .i64 0, .bool false, .int .i64 0, .int .i64 0, .int .i64 0, .slice none 0 0, .bool false, .int .i64 0] #[.int .i64 n0, .int .i64 n1, .int .i64 n2, .int .i64 n3, .int .i64 n4, .int .i64 n5, .int .i64 n6, .bool n7, .int .i64 ad, .int .i64 2, .int .i64 M, (.slice a4 l.length c4), .bool false, .int .i64 0] (HL7.out.get (.head _)) (by kernel_rfl) (by kernel_rfl) (by kernel_rfl) (by kernel_rfl) ?_; intro w8 g8 o8; have HL8 := Lib.hid (show Lv w w8 [(R2, #[.int .i64 n0, .int .i64 n1, .int .i64 n2, .int .i64 n3, .int .i64 n4, .int .i64 n5, .int .i64 n6, .bool n7, .int .i64 ad, .int .i64 2, .int .i64 M, (.slice a4 l.length c4), .bool false, .int .i64 0], 127), (R1, #[.int .i64 n0, .int .i64 n1, .int .i64 n2, .int .i64 n3, .int .i64 n4, .int .i64 n5, .int .i64 n6, .bool n7, .int .i64 ad, .int .i64 2, .int .i64 M, (.slice a4 l.length c4)], 40)] [(L4, H4, a4, l)] from HL7.out.put 0 rfl g8 o8 (List.forall_mem_cons.2 ⟨Nat.ne_of_lt qR2_R1, (fun _ h => nomatch h)⟩) (List.forall_mem_cons.2 ⟨.inr qL4_R2, (fun _ h => nomatch h)⟩) rfl); clear g8 o8))
      exact bodyPost_ret (results_cell_row (p := 2) (ty := 127) (by kernel_rfl) _ _ (R2) 127 _ (0, 0) _ rfl (HL8.out.get (.head _)) Tryz.underlying127 rfl (by kernel_rfl)) rfl ⟨a4, c4, rfl, HL8.out.all (.head _), HL8.out.below⟩
    · have e1 : (tickC ⟨n, ad, st, lf, l⟩).st = st := by simp [tickC, s1, hM, hz]
      have e2 : (tickC ⟨n, ad, st, lf, l⟩).lf = M := by simp [tickC, s1, hM]
      rw [e1, e2]
      have hz0 : (M == 0) = false := by simpa using hz
      clear s1 l0 l1 hM hz hb1 e1 e2
      obtain ⟨n0, n1, n2, n3, n4, n5, n6, n7⟩ := n
      unfold clV at *
      unfold clOutV
      dsimp only at *
      go_enter Tryz.func71, Tryz.ntmps71
      go_wp2_with (first
        | (refine wpList_box_h rfl 40 (.tmp 0) rfl #[.int .i64 n0, .int .i64 n1, .int .i64 n2, .int .i64 n3, .int .i64 n4, .int .i64 n5, .int .i64 n6, .bool n7, .int .i64 ad, .int .i64 st, .int .i64 lf, .slice a l.length cap] rfl ?_; intro w1 R1 e1 g1 b1; have HL1 := Lib.hid (show Lv w w1 [(R1, #[.int .i64 n0, .int .i64 n1, .int .i64 n2, .int .i64 n3, .int .i64 n4, .int .i64 n5, .int .i64 n6, .bool n7, .int .i64 ad, .int .i64 st, .int .i64 lf, .slice a l.length cap], 40)] [] from (Lv.first w).box e1 g1 b1); clear g1 b1 e1)
        | (refine wpList_alloc_h rfl 127 rfl (.agg #[.int .i64 0, .int .i64 0, .int .i64 0, .int .i64 0, .int .i64 0, .int .i64 0, .int .i64 0, .bool false, .int .i64 0, .int .i64 0, .int .i64 0, .slice none 0 0, .bool false, .int .i64 0]) (by kernel_rfl) #[.int .i64 0, .int .i64 0, .int .i64 0, .int .i64 0, .int .i64 0, .int .i64 0, .int .i64 0, .bool false, .int .i64 0, .int .i64 0, .int .i64 0, .slice none 0 0, .bool false, .int .i64 0] rfl ?_; intro w2 R2 e2 g2 b2; have qR2_R1 : R1 < R2 := Nat.lt_of_lt_of_eq (HL1.out.lt (.head _)) e2; have HL2 := Lib.hid (show Lv w w2 [(R2, #[.int .i64 0, .int .i64 0, .int .i64 0, .int .i64 0, .int .i64 0, .int .i64 0, .int .i64 0, .bool false, .int .i64 0, .int .i64 0, .int .i64 0, .slice none 0 0, .bool false, .int .i64 0], 127), (R1, #[.int .i64 n0, .int .i64 n1, .int .i64 n2, .int .i64 n3, .int .i64 n4, .int .i64 n5, .int .i64 n6, .bool n7, .int .i64 ad, .int .i64 st, .int .i64 lf, .slice a l.length cap], 40)] [] from HL1.out.box e2 g2 b2); clear g2 b2 e2)
        | (refine wpList_load_at rfl 40 (.tmp 1) rfl (R1) 0 rfl 40 #[.int .i64 n0, .int .i64 n1, .int .i64 n2, .int .i64 n3, .int .i64 n4, .int .i64 n5, .int .i64 n6, .bool n7, .int .i64 ad, .int .i64 st, .int .i64 lf, .slice a l.length cap] (0, 0) (HL2.out.get (.tail _ (.head _))) [.int .i64 n0, .int .i64 n1, .int .i64 n2, .int .i64 n3, .int .i64 n4, .int .i64 n5, .int .i64 n6, .bool n7, .int .i64 ad, .int .i64 st, .int .i64 lf, .slice a l.length cap] rfl _ Tryz.underlying40 rfl (by kernel_rfl) ?_))
      refine ((HC _ (HI.out.kept HL2.out.below)).out).mono ?_
      rintro e w3 ⟨rfl, h⟩
      have HL3 := Lib.hid (show Lv w w3 [(R2, #[.int .i64 0, .int .i64 0, .int .i64 0, .int .i64 0, .int .i64 0, .int .i64 0, .int .i64 0, .bool false, .int .i64 0, .int .i64 0, .int .i64 0, .slice none 0 0, .bool false, .int .i64 0], 127), (R1, #[.int .i64 n0, .int .i64 n1, .int .i64 n2, .int .i64 n3, .int .i64 n4, .int .i64 n5, .int .i64 n6, .bool n7, .int .i64 ad, .int .i64 st, .int .i64 lf, .slice a l.length cap], 40)] [] from HL2.out.kept h)
      clear h
      go_wp2_with (first
        | (refine wpList_load_one rfl 24 (.tmp 7) rfl (R1) 11 rfl 40 #[.int .i64 n0, .int .i64 n1, .int .i64 n2, .int .i64 n3, .int .i64 n4, .int .i64 n5, .int .i64 n6, .bool n7, .int .i64 ad, .int .i64 st, .int .i64 lf, .slice a l.length cap] (0, 0) (HL3.out.get (.tail _ (.head _))) (.slice a l.length cap) rfl _ Tryz.underlying24 rfl (by kernel_rfl) ?_)
        | (go_at_call 147; refine ((HK _ (HI.out.kept HL3.out.below)).out).mono ?_; rintro e w4 ⟨a4, c4, rfl, hn, h⟩; obtain ⟨L4, e4⟩ : ∃ x, w3.heap.size = x := ⟨_, rfl⟩; obtain ⟨H4, f4⟩ : ∃ x, w4.heap.size = x := ⟨_, rfl⟩; have qL4_R2 : R2 < L4 := Nat.lt_of_lt_of_eq (HL3.out.lt (.head _)) e4; have qL4_R1 : R1 < L4 := Nat.lt_of_lt_of_eq (HL3.out.lt (.tail _ (.head _))) e4; have qH4_L4 : L4 ≤ H4 := (by rw [← e4, ← f4]; exact h.size); have HL4 := Lib.hid (show Lv w w4 [(R2, #[.int .i64 0, .int .i64 0, .int .i64 0, .int .i64 0, .int .i64 0, .int .i64 0, .int .i64 0, .bool false, .int .i64 0, .int .i64 0, .int .i64 0, .slice none 0 0, .bool false, .int .i64 0], 127), (R1, #[.int .i64 n0, .int .i64 n1, .int .i64 n2, .int .i64 n3, .int .i64 n4, .int .i64 n5, .int .i64 n6, .bool n7, .int .i64 ad, .int .i64 st, .int .i64 lf, .slice a l.length cap], 40)] [(L4, H4, a4, l)] from HL3.out.made e4 f4 h hn); clear h hn e4 f4)
        | (refine wpList_put_at rfl 24 (.tmp 10) (.tmp 9) rfl rfl (R1) 11 rfl ((.slice a4 l.length c4)) rfl #[(.slice a4 l.length c4)] rfl 40 #[.int .i64 n0, .int .i64 n1, .int .i64 n2, .int .i64 n3, .int .i64 n4, .int .i64 n5, .int .i64 n6, .bool n7, .int .i64 ad, .int .i64 st, .int .i64 lf, .slice a l.length cap] #[.int .i64 n0, .int .i64 n1, .int .i64 n2, .int .i64 n3, .int .i64 n4, .int .i64 n5, .int .i64 n6, .bool n7, .int .i64 ad, .int .i64 st, .int .i64 lf, (.slice a4 l.length c4)] (HL4.out.get (.tail _ (.head _))) (by kernel_rfl) (by kernel_rfl) (by kernel_rfl) (by kernel_rfl) ?_; intro w5 g5 o5; have HL5 := Lib.hid (show Lv w w5 [(R2, #[.int .i64 0, .int .i64 0, .int .i64 0, .int .i64 0, .int .i64 0, .int .i64 0, .int .i64 0, .bool false, .int .i64 0, .int .i64 0, .int .i64 0, .slice none 0 0, .bool false, .int .i64 0], 127), (R1, #[.int .i64 n0, .int .i64 n1, .int .i64 n2, .int .i64 n3, .int .i64 n4, .int .i64 n5, .int .i64 n6, .bool n7, .int .i64 ad, .int .i64 st, .int .i64 lf, (.slice a4 l.length c4)], 40)] [(L4, H4, a4, l)] from HL4.out.put 1 rfl g5 o5 (List.forall_mem_cons.2 ⟨Nat.ne_of_gt qR2_R1, (fun _ h => nomatch h)⟩) (List.forall_mem_cons.2 ⟨.inr qL4_R1, (fun _ h => nomatch h)⟩) rfl); clear g5 o5)
        | (refine wpList_load_one rfl 2 (.tmp 11) rfl (R1) 9 rfl 40 #[.int .i64 n0, .int .i64 n1, .int .i64 n2, .int .i64 n3, .int .i64 n4, .int .i64 n5, .int .i64 n6, .bool n7, .int .i64 ad, .int .i64 st, .int .i64 lf, (.slice a4 l.length c4)] (0, 0) (HL5.out.get (.tail _ (.head _))) (.int .i64 st) rfl _ Tryz.underlying2 rfl (by kernel_rfl) ?_)
        | (refine wpList_load_one rfl 2 (.tmp 14) rfl (R1) 10 rfl 40 #[.int .i64 n0, .int .i64 n1, .int .i64 n2, .int .i64 n3, .int .i64 n4, .int .i64 n5, .int .i64 n6, .bool n7, .int .i64 ad, .int .i64 st, .int .i64 lf, (.slice a4 l.length c4)] (0, 0) (HL5.out.get (.tail _ (.head _))) (.int .i64 lf) rfl _ Tryz.underlying2 rfl (by kernel_rfl) ?_)
        | (refine wpList_put_at rfl 2 (.tmp 17) (.tmp 16) rfl rfl (R1) 10 rfl (.int .i64 M) rfl #[.int .i64 M] rfl 40 #[.int .i64 n0, .int .i64 n1, .int .i64 n2, .int .i64 n3, .int .i64 n4, .int .i64 n5, .int .i64 n6, .bool n7, .int .i64 ad, .int .i64 st, .int .i64 lf, (.slice a4 l.length c4)] #[.int .i64 n0, .int .i64 n1, .int .i64 n2, .int .i64 n3, .int .i64 n4, .int .i64 n5, .int .i64 n6, .bool n7, .int .i64 ad, .int .i64 st, .int .i64 M, (.slice a4 l.length c4)] (HL5.out.get (.tail _ (.head _))) (by kernel_rfl) (by kernel_rfl) (by kernel_rfl) (by kernel_rfl) ?_; intro w6 g6 o6; have HL6 := Lib.hid (show Lv w w6 [(R2, #[.int .i64 0, .int .i64 0, .int .i64 0, .int .i64 0, .int .i64 0, .int .i64 0, .int .i64 0, .bool false, .int .i64 0, .int .i64 0, .int .i64 0, .slice none 0 0, .bool false, .int .i64 0], 127), (R1, #[.int .i64 n0, .int .i64 n1, .int .i64 n2, .int .i64 n3, .int .i64 n4, .int .i64 n5, .int .i64 n6, .bool n7, .int .i64 ad, .int .i64 st, .int .i64 M, (.slice a4 l.length c4)], 40)] [(L4, H4, a4, l)] from HL5.out.put 1 rfl g6 o6 (List.forall_mem_cons.2 ⟨Nat.ne_of_gt qR2_R1, (fun _ h => nomatch h)⟩) (List.forall_mem_cons.2 ⟨.inr qL4_R1, (fun _ h => nomatch h)⟩) rfl); clear g6 o6)
        | (refine wpList_load_one rfl 2 (.tmp 18) rfl (R1) 10 rfl 40 #[.int .i64 n0, .int .i64 n1, .int .i64 n2, .int .i64 n3, .int .i64 n4, .int .i64 n5, .int .i64 n6, .bool n7, .int .i64 ad, .int .i64 st, .int .i64 M, (.slice a4 l.length c4)] (0, 0) (HL6.out.get (.tail _ (.head _))) (.int .i64 M) rfl _ Tryz.underlying2 rfl (by kernel_rfl) ?_)
        | (refine wpList_load_at rfl 40 (.tmp 1) rfl (R1) 0 rfl 40 #[.int .i64 n0, .int .i64 n1, .int .i64 n2, .int .i64 n3, .int .i64 n4, .int .i64 n5, .int .i64 n6, .bool n7, .int .i64 ad, .int .i64 st, .int .i64 M, (.slice a4 l.length c4)] (0, 0) (HL6.out.get (.tail _ (.head _))) [.int .i64 n0, .int .i64 n1, .int .i64 n2, .int .i64 n3, .int .i64 n4, .int .i64 n5, .int .i64 n6, .bool n7, .int .i64 ad, .int .i64 st, .int .i64 M, (.slice a4 l.length c4)] rfl _ Tryz.underlying40 rfl (by kernel_rfl) ?_)
        | (refine wpList_put_at rfl 127 (.tmp 2) (.tmp 23) rfl rfl (R2) 0 rfl (.agg #[.int .i64 n0, .int .i64 n1, .int .i64 n2, .int .i64 n3, .int .i64 n4, .int .i64 n5, .int .i64 n6, .bool n7, .int .i64 ad, .int .i64 st, .int .i64 M, (.slice a4 l.length c4), .bool false, .int .i64 0]) rfl #[.int .i64 n0, .int .i64 n1, .int .i64 n2, .int .i64 n3, .int .i64 n4, .int .i64 n5, .int .i64 n6, .bool n7, .int .i64 ad, .int .i64 st, .int .i64 M, (.slice a4 l.length c4), .bool false, .int .i64 0] rfl 127 #[.int .i64 0, .int .i64 0, .int .i64 0, .int .i64 0, .int .i64 0, .int .i64 0, .int .i64 0, .bool false, .int .i64 0, .int .i64 0, .int .i64 0, .slice none 0 0, .bool false, .int .i64 0] #[.int .i64 n0, .int .i64 n1, .int .i64 n2, .int .i64 n3, .int .i64 n4, .int .i64 n5, .int .i64 n6, .bool n7, .int .i64 ad, .int .i64 st, .int .i64 M, (.slice a4 l.length c4), .bool false, .int .i64 0] (HL6.out.get (.head _)) (by kernel_rfl) (by kernel_rfl) (by kernel_rfl) (by kernel_rfl) ?_; intro w7 g7 o7; have HL7 := Lib.hid (show Lv w w7 [(R2, #[.int .i64 n0, .int .i64 n1, .int .i64 n2, .int .i64 n3, .int .i64 n4, .int .i64 n5, .int .i64 n6, .bool n7, .int .i64 ad, .int .i64 st, .int .i64 M, (.slice a4 l.length c4), .bool false, .int .i64 0], 127), (R1, #[.int .i64 n0, .int .i64 n1, .int .i64 n2, .int .i64 n3, .int .i64 n4, .int .i64 n5, .int .i64 n6, .bool n7, .int .i64 ad, .int .i64 st, .int .i64 M, (.slice a4 l.length c4)], 40)] [(L4, H4, a4, l)] from HL6.out.put 0 rfl g7 o7 (List.forall_mem_cons.2 ⟨Nat.ne_of_lt qR2_R1, (fun _ h => nomatch h)⟩) (List.forall_mem_cons.2 ⟨.inr qL4_R2, (fun _ h => nomatch h)⟩) rfl); clear g7 o7))
      exact bodyPost_ret (results_cell_row (p := 2) (ty := 127) (by kernel_rfl) _ _ (R2) 127 _ (0, 0) _ rfl (HL7.out.get (.head _)) Tryz.underlying127 rfl (by kernel_rfl)) rfl ⟨a4, c4, rfl, HL7.out.all (.head _), HL7.out.below⟩
  · have hs : (st == 1) = false := by simpa using s1
    have e1 : (tickC ⟨n, ad, st, lf, l⟩).st = st := by simp [tickC, s1]
    have e2 : (tickC ⟨n, ad, st, lf, l⟩).lf = lf := by simp [tickC, s1]
    rw [e1, e2]
    clear s1 hb1 e1 e2
    obtain ⟨n0, n1, n2, n3, n4, n5, n6, n7⟩ := n
    unfold clV at *
    unfold clOutV
    dsimp only at *
    go_enter Tryz.func71, Tryz.ntmps71
    go_wp2_with (first
      | (refine wpList_box_h rfl 40 (.tmp 0) rfl #[.int .i64 n0, .int .i64 n1, .int .i64 n2, .int .i64 n3, .int .i64 n4, .int .i64 n5, .int .i64 n6, .bool n7, .int .i64 ad, .int .i64 st, .int .i64 lf, .slice a l.length cap] rfl ?_; intro w1 R1 e1 g1 b1; have HL1 := Lib.hid (show Lv w w1 [(R1, #[.int .i64 n0, .int .i64 n1, .int .i64 n2, .int .i64 n3, .int .i64 n4, .int .i64 n5, .int .i64 n6, .bool n7, .int .i64 ad, .int .i64 st, .int .i64 lf, .slice a l.length cap], 40)] [] from (Lv.first w).box e1 g1 b1); clear g1 b1 e1)
      | (refine wpList_alloc_h rfl 127 rfl (.agg #[.int .i64 0, .int .i64 0, .int .i64 0, .int .i64 0, .int .i64 0, .int .i64 0, .int .i64 0, .bool false, .int .i64 0, .int .i64 0, .int .i64 0, .slice none 0 0, .bool false, .int .i64 0]) (by kernel_rfl) #[.int .i64 0, .int .i64 0, .int .i64 0, .int .i64 0, .int .i64 0, .int .i64 0, .int .i64 0, .bool false, .int .i64 0, .int .i64 0, .int .i64 0, .slice none 0 0, .bool false, .int .i64 0] rfl ?_; intro w2 R2 e2 g2 b2; have qR2_R1 : R1 < R2 := Nat.lt_of_lt_of_eq (HL1.out.lt (.head _)) e2; have HL2 := Lib.hid (show Lv w w2 [(R2, #[.int .i64 0, .int .i64 0, .int .i64 0, .int .i64 0, .int .i64 0, .int .i64 0, .int .i64 0, .bool false, .int .i64 0, .int .i64 0, .int .i64 0, .slice none 0 0, .bool false, .int .i64 0], 127), (R1, #[.int .i64 n0, .int .i64 n1, .int .i64 n2, .int .i64 n3, .int .i64 n4, .int .i64 n5, .int .i64 n6, .bool n7, .int .i64 ad, .int .i64 st, .int .i64 lf, .slice a l.length cap], 40)] [] from HL1.out.box e2 g2 b2); clear g2 b2 e2)
      | (refine wpList_load_at rfl 40 (.tmp 1) rfl (R1) 0 rfl 40 #[.int .i64 n0, .int .i64 n1, .int .i64 n2, .int .i64 n3, .int .i64 n4, .int .i64 n5, .int .i64 n6, .bool n7, .int .i64 ad, .int .i64 st, .int .i64 lf, .slice a l.length cap] (0, 0) (HL2.out.get (.tail _ (.head _))) [.int .i64 n0, .int .i64 n1, .int .i64 n2, .int .i64 n3, .int .i64 n4, .int .i64 n5, .int .i64 n6, .bool n7, .int .i64 ad, .int .i64 st, .int .i64 lf, .slice a l.length cap] rfl _ Tryz.underlying40 rfl (by kernel_rfl) ?_))
    refine ((HC _ (HI.out.kept HL2.out.below)).out).mono ?_
    rintro e w3 ⟨rfl, h⟩
    have HL3 := Lib.hid (show Lv w w3 [(R2, #[.int .i64 0, .int .i64 0, .int .i64 0, .int .i64 0, .int .i64 0, .int .i64 0, .int .i64 0, .bool false, .int .i64 0, .int .i64 0, .int .i64 0, .slice none 0 0, .bool false, .int .i64 0], 127), (R1, #[.int .i64 n0, .int .i64 n1, .int .i64 n2, .int .i64 n3, .int .i64 n4, .int .i64 n5, .int .i64 n6, .bool n7, .int .i64 ad, .int .i64 st, .int .i64 lf, .slice a l.length cap], 40)] [] from HL2.out.kept h)
    clear h
    go_wp2_with (first
      | (refine wpList_load_one rfl 24 (.tmp 7) rfl (R1) 11 rfl 40 #[.int .i64 n0, .int .i64 n1, .int .i64 n2, .int .i64 n3, .int .i64 n4, .int .i64 n5, .int .i64 n6, .bool n7, .int .i64 ad, .int .i64 st, .int .i64 lf, .slice a l.length cap] (0, 0) (HL3.out.get (.tail _ (.head _))) (.slice a l.length cap) rfl _ Tryz.underlying24 rfl (by kernel_rfl) ?_)
      | (go_at_call 147; refine ((HK _ (HI.out.kept HL3.out.below)).out).mono ?_; rintro e w4 ⟨a4, c4, rfl, hn, h⟩; obtain ⟨L4, e4⟩ : ∃ x, w3.heap.size = x := ⟨_, rfl⟩; obtain ⟨H4, f4⟩ : ∃ x, w4.heap.size = x := ⟨_, rfl⟩; have qL4_R2 : R2 < L4 := Nat.lt_of_lt_of_eq (HL3.out.lt (.head _)) e4; have qL4_R1 : R1 < L4 := Nat.lt_of_lt_of_eq (HL3.out.lt (.tail _ (.head _))) e4; have qH4_L4 : L4 ≤ H4 := (by rw [← e4, ← f4]; exact h.size); have HL4 := Lib.hid (show Lv w w4 [(R2, #[.int .i64 0, .int .i64 0, .int .i64 0, .int .i64 0, .int .i64 0, .int .i64 0, .int .i64 0, .bool false, .int .i64 0, .int .i64 0, .int .i64 0, .slice none 0 0, .bool false, .int .i64 0], 127), (R1, #[.int .i64 n0, .int .i64 n1, .int .i64 n2, .int .i64 n3, .int .i64 n4, .int .i64 n5, .int .i64 n6, .bool n7, .int .i64 ad, .int .i64 st, .int .i64 lf, .slice a l.length cap], 40)] [(L4, H4, a4, l)] from HL3.out.made e4 f4 h hn); clear h hn e4 f4)
      | (refine wpList_put_at rfl 24 (.tmp 10) (.tmp 9) rfl rfl (R1) 11 rfl ((.slice a4 l.length c4)) rfl #[(.slice a4 l.length c4)] rfl 40 #[.int .i64 n0, .int .i64 n1, .int .i64 n2, .int .i64 n3, .int .i64 n4, .int .i64 n5, .int .i64 n6, .bool n7, .int .i64 ad, .int .i64 st, .int .i64 lf, .slice a l.length cap] #[.int .i64 n0, .int .i64 n1, .int .i64 n2, .int .i64 n3, .int .i64 n4, .int .i64 n5, .int .i64 n6, .bool n7, .int .i64 ad, .int .i64 st, .int .i64 lf, (.slice a4 l.length c4)] (HL4.out.get (.tail _ (.head _))) (by kernel_rfl) (by kernel_rfl) (by kernel_rfl) (by kernel_rfl) ?_; intro w5 g5 o5; have HL5 := Lib.hid (show Lv w w5 [(R2, #[.int .i64 0, .int .i64 0, .int .i64 0, .int .i64 0, .int .i64 0, .int .i64 0, .int .i64 0, .bool false, .int .i64 0, .int .i64 0, .int .i64 0, .slice none 0 0, .bool false, .int .i64 0], 127), (R1, #[.int .i64 n0, .int .i64 n1, .int .i64 n2, .int .i64 n3, .int .i64 n4, .int .i64 n5, .int .i64 n6, .bool n7, .int .i64 ad, .int .i64 st, .int .i64 lf, (.slice a4 l.length c4)], 40)] [(L4, H4, a4, l)] from HL4.out.put 1 rfl g5 o5 (List.forall_mem_cons.2 ⟨Nat.ne_of_gt qR2_R1, (fun _ h => nomatch h)⟩) (List.forall_mem_cons.2 ⟨.inr qL4_R1, (fun _ h => nomatch h)⟩) rfl); clear g5 o5)
      | (refine wpList_load_one rfl 2 (.tmp 11) rfl (R1) 9 rfl 40 #[.int .i64 n0, .int .i64 n1, .int .i64 n2, .int .i64 n3, .int .i64 n4, .int .i64 n5, .int .i64 n6, .bool n7, .int .i64 ad, .int .i64 st, .int .i64 lf, (.slice a4 l.length c4)] (0, 0) (HL5.out.get (.tail _ (.head _))) (.int .i64 st) rfl _ Tryz.underlying2 rfl (by kernel_rfl) ?_)
      | (refine wpList_load_at rfl 40 (.tmp 1) rfl (R1) 0 rfl 40 #[.int .i64 n0, .int .i64 n1, .int .i64 n2, .int .i64 n3, .int .i64 n4, .int .i64 n5, .int .i64 n6, .bool n7, .int .i64 ad, .int .i64 st, .int .i64 lf, (.slice a4 l.length c4)] (0, 0) (HL5.out.get (.tail _ (.head _))) [.int .i64 n0, .int .i64 n1, .int .i64 n2, .int .i64 n3, .int .i64 n4, .int .i64 n5, .int .i64 n6, .bool n7, .int .i64 ad, .int .i64 st, .int .i64 lf, (.slice a4 l.length c4)] rfl _ Tryz.underlying40 rfl (by kernel_rfl) ?_)
      | (refine wpList_put_at rfl 127 (.tmp 2) (.tmp 23) rfl rfl (R2) 0 rfl (.agg #[.int .i64 n0, .int .i64 n1, .int .i64 n2, .int .i64 n3, .int .i64 n4, .int .i64 n5, .int .i64 n6, .bool n7, .int .i64 ad, .int .i64 st, .int .i64 lf, (.slice a4 l.length c4), .bool false, .int .i64 0]) rfl #[.int .i64 n0, .int .i64 n1, .int .i64 n2, .int .i64 n3, .int .i64 n4, .int .i64 n5, .int .i64 n6, .bool n7, .int .i64 ad, .int .i64 st, .int .i64 lf, (.slice a4 l.length c4), .bool false, .int .i64 0] rfl 127 #[.int .i64 0, .int .i64 0, .int .i64 0, .int .i64 0, .int .i64 0, .int .i64 0, .int .i64 0, .bool false, .int .i64 0, .int .i64 0, .int .i64 0, .slice none 0 0, .bool false, .int .i64 0] #[.int .i64 n0, .int .i64 n1, .int .i64 n2, .int .i64 n3, .int .i64 n4, .int .i64 n5, .int .i64 n6, .bool n7, .int .i64 ad, .int .i64 st, .int .i64 lf, (.slice a4 l.length c4), .bool false, .int .i64 0] (HL5.out.get (.head _)) (by kernel_rfl) (by kernel_rfl) (by kernel_rfl) (by kernel_rfl) ?_; intro w6 g6 o6; have HL6 := Lib.hid (show Lv w w6 [(R2, #[.int .i64 n0, .int .i64 n1, .int .i64 n2, .int .i64 n3, .int .i64 n4, .int .i64 n5, .int .i64 n6, .bool n7, .int .i64 ad, .int .i64 st, .int .i64 lf, (.slice a4 l.length c4), .bool false, .int .i64 0], 127), (R1, #[.int .i64 n0, .int .i64 n1, .int .i64 n2, .int .i64 n3, .int .i64 n4, .int .i64 n5, .int .i64 n6, .bool n7, .int .i64 ad, .int .i64 st, .int .i64 lf, (.slice a4 l.length c4)], 40)] [(L4, H4, a4, l)] from HL5.out.put 0 rfl g6 o6 (List.forall_mem_cons.2 ⟨Nat.ne_of_lt qR2_R1, (fun _ h => nomatch h)⟩) (List.forall_mem_cons.2 ⟨.inr qL4_R2, (fun _ h => nomatch h)⟩) rfl); clear g6 o6))
    exact bodyPost_ret (results_cell_row (p := 2) (ty := 127) (by kernel_rfl) _ _ (R2) 127 _ (0, 0) _ rfl (HL6.out.get (.head _)) Tryz.underlying127 rfl (by kernel_rfl)) rfl ⟨a4, c4, rfl, HL6.out.all (.head _), HL6.out.below⟩
end Go.Proofs.YtioldepgoodipaaGreat
/- A Claim that waits, and a new one: the program's. Nothing that was there is written. -/
namespace Go.Proofs.YtioldepgoodipaaGreat
open Go.RowKit
set_option linter.unusedVariables false

end Go.Proofs.YtioldepgoodipaaGreat
/- Which of two Names is less: the program's. For every two; nothing that was there is written. -/
namespace Go.Proofs.YtioldepgoodipaaGreat
open Go.RowKit
set_option linter.unusedVariables false

set_option maxRecDepth 100000 in
set_option maxHeartbeats 8000000 in
theorem implNameLess_any (a b : Nm) (w : World) :
    Calls Tryz.prog 224 #[nmV a, nmV b] w fun e w' => e = .returned (.bool (nmLessB a b)) ∧ Below w.heap.size w w' := by
  have HA := fun W => Lib.hid (implNameOk_any a W)
  have HB := fun W => Lib.hid (implNameOk_any b W)
  have hb0 : ∀ o o' : Obj, Below w.heap.size w ((w.alloc o).alloc o') := fun o o' => ((Below.refl _ _).alloc (Nat.le_refl _) _).alloc (by simp) _
  have HB0 := Lib.hid hb0
  clear hb0
  obtain ⟨a0, a1, a2, a3, a4, a5, a6, a7⟩ := a
  obtain ⟨b0, b1, b2, b3, b4, b5, b6, b7⟩ := b
  rcases ha : okB ⟨a0, a1, a2, a3, a4, a5, a6, a7⟩
  · have HO := Lib.hid (show nmLessB ⟨a0, a1, a2, a3, a4, a5, a6, a7⟩ ⟨b0, b1, b2, b3, b4, b5, b6, b7⟩ = false by simp [nmLessB, ha])
    rw [ha] at HA
    clear ha HB
    unfold nmV at *
    go_enter Tryz.func224, Tryz.ntmps224
    go_wp2_with fail
    have bU0 := HB0.out (.cells #[.int .i64 a0, .int .i64 a1, .int .i64 a2, .int .i64 a3, .int .i64 a4, .int .i64 a5, .int .i64 a6, .bool a7] 38) (.cells #[.int .i64 b0, .int .i64 b1, .int .i64 b2, .int .i64 b3, .int .i64 b4, .int .i64 b5, .int .i64 b6, .bool b7] 38)
    have kU : ((((w.alloc (.cells #[.int .i64 a0, .int .i64 a1, .int .i64 a2, .int .i64 a3, .int .i64 a4, .int .i64 a5, .int .i64 a6, .bool a7] 38)).alloc (.cells #[.int .i64 b0, .int .i64 b1, .int .i64 b2, .int .i64 b3, .int .i64 b4, .int .i64 b5, .int .i64 b6, .bool b7] 38)).cell? ⟨w.heap.size, 0, none⟩ = some (.int .i64 a0) ∧ ((w.alloc (.cells #[.int .i64 a0, .int .i64 a1, .int .i64 a2, .int .i64 a3, .int .i64 a4, .int .i64 a5, .int .i64 a6, .bool a7] 38)).alloc (.cells #[.int .i64 b0, .int .i64 b1, .int .i64 b2, .int .i64 b3, .int .i64 b4, .int .i64 b5, .int .i64 b6, .bool b7] 38)).cell? ⟨w.heap.size, 1, none⟩ = some (.int .i64 a1) ∧ ((w.alloc (.cells #[.int .i64 a0, .int .i64 a1, .int .i64 a2, .int .i64 a3, .int .i64 a4, .int .i64 a5, .int .i64 a6, .bool a7] 38)).alloc (.cells #[.int .i64 b0, .int .i64 b1, .int .i64 b2, .int .i64 b3, .int .i64 b4, .int .i64 b5, .int .i64 b6, .bool b7] 38)).cell? ⟨w.heap.size, 2, none⟩ = some (.int .i64 a2) ∧ ((w.alloc (.cells #[.int .i64 a0, .int .i64 a1, .int .i64 a2, .int .i64 a3, .int .i64 a4, .int .i64 a5, .int .i64 a6, .bool a7] 38)).alloc (.cells #[.int .i64 b0, .int .i64 b1, .int .i64 b2, .int .i64 b3, .int .i64 b4, .int .i64 b5, .int .i64 b6, .bool b7] 38)).cell? ⟨w.heap.size, 3, none⟩ = some (.int .i64 a3) ∧ ((w.alloc (.cells #[.int .i64 a0, .int .i64 a1, .int .i64 a2, .int .i64 a3, .int .i64 a4, .int .i64 a5, .int .i64 a6, .bool a7] 38)).alloc (.cells #[.int .i64 b0, .int .i64 b1, .int .i64 b2, .int .i64 b3, .int .i64 b4, .int .i64 b5, .int .i64 b6, .bool b7] 38)).cell? ⟨w.heap.size, 4, none⟩ = some (.int .i64 a4) ∧ ((w.alloc (.cells #[.int .i64 a0, .int .i64 a1, .int .i64 a2, .int .i64 a3, .int .i64 a4, .int .i64 a5, .int .i64 a6, .bool a7] 38)).alloc (.cells #[.int .i64 b0, .int .i64 b1, .int .i64 b2, .int .i64 b3, .int .i64 b4, .int .i64 b5, .int .i64 b6, .bool b7] 38)).cell? ⟨w.heap.size, 5, none⟩ = some (.int .i64 a5) ∧ ((w.alloc (.cells #[.int .i64 a0, .int .i64 a1, .int .i64 a2, .int .i64 a3, .int .i64 a4, .int .i64 a5, .int .i64 a6, .bool a7] 38)).alloc (.cells #[.int .i64 b0, .int .i64 b1, .int .i64 b2, .int .i64 b3, .int .i64 b4, .int .i64 b5, .int .i64 b6, .bool b7] 38)).cell? ⟨w.heap.size, 6, none⟩ = some (.int .i64 a6) ∧ ((w.alloc (.cells #[.int .i64 a0, .int .i64 a1, .int .i64 a2, .int .i64 a3, .int .i64 a4, .int .i64 a5, .int .i64 a6, .bool a7] 38)).alloc (.cells #[.int .i64 b0, .int .i64 b1, .int .i64 b2, .int .i64 b3, .int .i64 b4, .int .i64 b5, .int .i64 b6, .bool b7] 38)).cell? ⟨w.heap.size, 7, none⟩ = some (.bool a7)) ∧ (((w.alloc (.cells #[.int .i64 a0, .int .i64 a1, .int .i64 a2, .int .i64 a3, .int .i64 a4, .int .i64 a5, .int .i64 a6, .bool a7] 38)).alloc (.cells #[.int .i64 b0, .int .i64 b1, .int .i64 b2, .int .i64 b3, .int .i64 b4, .int .i64 b5, .int .i64 b6, .bool b7] 38)).cell? ⟨w.heap.size + 1, 0, none⟩ = some (.int .i64 b0) ∧ ((w.alloc (.cells #[.int .i64 a0, .int .i64 a1, .int .i64 a2, .int .i64 a3, .int .i64 a4, .int .i64 a5, .int .i64 a6, .bool a7] 38)).alloc (.cells #[.int .i64 b0, .int .i64 b1, .int .i64 b2, .int .i64 b3, .int .i64 b4, .int .i64 b5, .int .i64 b6, .bool b7] 38)).cell? ⟨w.heap.size + 1, 1, none⟩ = some (.int .i64 b1) ∧ ((w.alloc (.cells #[.int .i64 a0, .int .i64 a1, .int .i64 a2, .int .i64 a3, .int .i64 a4, .int .i64 a5, .int .i64 a6, .bool a7] 38)).alloc (.cells #[.int .i64 b0, .int .i64 b1, .int .i64 b2, .int .i64 b3, .int .i64 b4, .int .i64 b5, .int .i64 b6, .bool b7] 38)).cell? ⟨w.heap.size + 1, 2, none⟩ = some (.int .i64 b2) ∧ ((w.alloc (.cells #[.int .i64 a0, .int .i64 a1, .int .i64 a2, .int .i64 a3, .int .i64 a4, .int .i64 a5, .int .i64 a6, .bool a7] 38)).alloc (.cells #[.int .i64 b0, .int .i64 b1, .int .i64 b2, .int .i64 b3, .int .i64 b4, .int .i64 b5, .int .i64 b6, .bool b7] 38)).cell? ⟨w.heap.size + 1, 3, none⟩ = some (.int .i64 b3) ∧ ((w.alloc (.cells #[.int .i64 a0, .int .i64 a1, .int .i64 a2, .int .i64 a3, .int .i64 a4, .int .i64 a5, .int .i64 a6, .bool a7] 38)).alloc (.cells #[.int .i64 b0, .int .i64 b1, .int .i64 b2, .int .i64 b3, .int .i64 b4, .int .i64 b5, .int .i64 b6, .bool b7] 38)).cell? ⟨w.heap.size + 1, 4, none⟩ = some (.int .i64 b4) ∧ ((w.alloc (.cells #[.int .i64 a0, .int .i64 a1, .int .i64 a2, .int .i64 a3, .int .i64 a4, .int .i64 a5, .int .i64 a6, .bool a7] 38)).alloc (.cells #[.int .i64 b0, .int .i64 b1, .int .i64 b2, .int .i64 b3, .int .i64 b4, .int .i64 b5, .int .i64 b6, .bool b7] 38)).cell? ⟨w.heap.size + 1, 5, none⟩ = some (.int .i64 b5) ∧ ((w.alloc (.cells #[.int .i64 a0, .int .i64 a1, .int .i64 a2, .int .i64 a3, .int .i64 a4, .int .i64 a5, .int .i64 a6, .bool a7] 38)).alloc (.cells #[.int .i64 b0, .int .i64 b1, .int .i64 b2, .int .i64 b3, .int .i64 b4, .int .i64 b5, .int .i64 b6, .bool b7] 38)).cell? ⟨w.heap.size + 1, 6, none⟩ = some (.int .i64 b6) ∧ ((w.alloc (.cells #[.int .i64 a0, .int .i64 a1, .int .i64 a2, .int .i64 a3, .int .i64 a4, .int .i64 a5, .int .i64 a6, .bool a7] 38)).alloc (.cells #[.int .i64 b0, .int .i64 b1, .int .i64 b2, .int .i64 b3, .int .i64 b4, .int .i64 b5, .int .i64 b6, .bool b7] 38)).cell? ⟨w.heap.size + 1, 7, none⟩ = some (.bool b7))) := by simp [go_sem]
    have zU : ((w.alloc (.cells #[.int .i64 a0, .int .i64 a1, .int .i64 a2, .int .i64 a3, .int .i64 a4, .int .i64 a5, .int .i64 a6, .bool a7] 38)).alloc (.cells #[.int .i64 b0, .int .i64 b1, .int .i64 b2, .int .i64 b3, .int .i64 b4, .int .i64 b5, .int .i64 b6, .bool b7] 38)).heap.size = w.heap.size + 2 := by simp
    generalize (w.alloc (.cells #[.int .i64 a0, .int .i64 a1, .int .i64 a2, .int .i64 a3, .int .i64 a4, .int .i64 a5, .int .i64 a6, .bool a7] 38)).alloc (.cells #[.int .i64 b0, .int .i64 b1, .int .i64 b2, .int .i64 b3, .int .i64 b4, .int .i64 b5, .int .i64 b6, .bool b7] 38) = U at *
    have lA : w.heap.size < U.heap.size := by omega
    have lB : w.heap.size + 1 < U.heap.size := by omega
    clear zU
    obtain ⟨⟨A0, A1, A2, A3, A4, A5, A6, A7⟩, ⟨B0, B1, B2, B3, B4, B5, B6, B7⟩⟩ := kU
    refine wp_region_quiet (C := fun W => Below U.heap.size U W) (by kernel_rfl) (by kernel_rfl) ((Below.refl _ _).drew) ?_
    dsimp only
    go_big_quiet_want; refine ⟨.agg #[.int .i64 a0, .int .i64 a1, .int .i64 a2, .int .i64 a3, .int .i64 a4, .int .i64 a5, .int .i64 a6, .bool a7], fun W hW => (by have y0 := (hW.cell (p := ⟨w.heap.size, 0, none⟩) lA).trans A0; have y1 := (hW.cell (p := ⟨w.heap.size, 1, none⟩) lA).trans A1; have y2 := (hW.cell (p := ⟨w.heap.size, 2, none⟩) lA).trans A2; have y3 := (hW.cell (p := ⟨w.heap.size, 3, none⟩) lA).trans A3; have y4 := (hW.cell (p := ⟨w.heap.size, 4, none⟩) lA).trans A4; have y5 := (hW.cell (p := ⟨w.heap.size, 5, none⟩) lA).trans A5; have y6 := (hW.cell (p := ⟨w.heap.size, 6, none⟩) lA).trans A6; have y7 := (hW.cell (p := ⟨w.heap.size, 7, none⟩) lA).trans A7; simp [Oper.quietAt, Oper.quietUpon, go_sem, y0, y1, y2, y3, y4, y5, y6, y7]), ?_⟩; simp only [Act.put, List.setIfInBounds_toArray, List.set_cons_zero, List.set_cons_succ]; go_big_quiet_on
    go_big_quiet_want; go_big_quiet_op; refine ⟨_, fun W hW => quietCall hW (HA W).out, ?_⟩; go_big_quiet_on
    first | go_big_quiet_skip | (go_big_quiet_want; go_big_quiet_op; first | go_big_quiet_on | (refine ⟨_, fun _ _ => rfl, ?_⟩; go_big_quiet_on))
    first | go_big_quiet_skip | (go_big_quiet_want; go_big_quiet_op; first | go_big_quiet_on | (refine ⟨_, fun _ _ => rfl, ?_⟩; go_big_quiet_on))
    first | go_big_quiet_skip | (go_big_quiet_want; go_big_quiet_op; first | go_big_quiet_on | (refine ⟨_, fun _ _ => rfl, ?_⟩; go_big_quiet_on))
    first | go_big_quiet_skip | (go_big_quiet_want; go_big_quiet_op; first | go_big_quiet_on | (refine ⟨_, fun _ _ => rfl, ?_⟩; go_big_quiet_on))
    first | go_big_quiet_skip | (go_big_quiet_want; go_big_quiet_op; first | go_big_quiet_on | (refine ⟨_, fun _ _ => rfl, ?_⟩; go_big_quiet_on))
    first | go_big_quiet_skip | (go_big_quiet_want; go_big_quiet_op; first | go_big_quiet_on | (refine ⟨_, fun _ _ => rfl, ?_⟩; go_big_quiet_on))
    first | go_big_quiet_skip | (go_big_quiet_want; go_big_quiet_op; first | go_big_quiet_on | (refine ⟨_, fun _ _ => rfl, ?_⟩; go_big_quiet_on))
    first | go_big_quiet_skip | (go_big_quiet_want; go_big_quiet_op; first | go_big_quiet_on | (refine ⟨_, fun _ _ => rfl, ?_⟩; go_big_quiet_on))
    first | go_big_quiet_skip | (go_big_quiet_want; go_big_quiet_op; first | go_big_quiet_on | (refine ⟨_, fun _ _ => rfl, ?_⟩; go_big_quiet_on))
    first | go_big_quiet_skip | (go_big_quiet_want; go_big_quiet_op; first | go_big_quiet_on | (refine ⟨_, fun _ _ => rfl, ?_⟩; go_big_quiet_on))
    first | go_big_quiet_skip | (go_big_quiet_want; go_big_quiet_op; first | go_big_quiet_on | (refine ⟨_, fun _ _ => rfl, ?_⟩; go_big_quiet_on))
    first | go_big_quiet_skip | (go_big_quiet_want; go_big_quiet_op; first | go_big_quiet_on | (refine ⟨_, fun _ _ => rfl, ?_⟩; go_big_quiet_on))
    refine wpQuiet_nil ?_
    intro X hX
    go_wp2
    go_ret
    exact ⟨by rw [HO.out]; rfl, bU0.trans (hX.mono (by omega))⟩
  rcases hb : okB ⟨b0, b1, b2, b3, b4, b5, b6, b7⟩
  · have HO := Lib.hid (show nmLessB ⟨a0, a1, a2, a3, a4, a5, a6, a7⟩ ⟨b0, b1, b2, b3, b4, b5, b6, b7⟩ = false by simp [nmLessB, ha, hb])
    rw [ha] at HA
    rw [hb] at HB
    clear ha hb
    unfold nmV at *
    go_enter Tryz.func224, Tryz.ntmps224
    go_wp2_with fail
    have bU0 := HB0.out (.cells #[.int .i64 a0, .int .i64 a1, .int .i64 a2, .int .i64 a3, .int .i64 a4, .int .i64 a5, .int .i64 a6, .bool a7] 38) (.cells #[.int .i64 b0, .int .i64 b1, .int .i64 b2, .int .i64 b3, .int .i64 b4, .int .i64 b5, .int .i64 b6, .bool b7] 38)
    have kU : ((((w.alloc (.cells #[.int .i64 a0, .int .i64 a1, .int .i64 a2, .int .i64 a3, .int .i64 a4, .int .i64 a5, .int .i64 a6, .bool a7] 38)).alloc (.cells #[.int .i64 b0, .int .i64 b1, .int .i64 b2, .int .i64 b3, .int .i64 b4, .int .i64 b5, .int .i64 b6, .bool b7] 38)).cell? ⟨w.heap.size, 0, none⟩ = some (.int .i64 a0) ∧ ((w.alloc (.cells #[.int .i64 a0, .int .i64 a1, .int .i64 a2, .int .i64 a3, .int .i64 a4, .int .i64 a5, .int .i64 a6, .bool a7] 38)).alloc (.cells #[.int .i64 b0, .int .i64 b1, .int .i64 b2, .int .i64 b3, .int .i64 b4, .int .i64 b5, .int .i64 b6, .bool b7] 38)).cell? ⟨w.heap.size, 1, none⟩ = some (.int .i64 a1) ∧ ((w.alloc (.cells #[.int .i64 a0, .int .i64 a1, .int .i64 a2, .int .i64 a3, .int .i64 a4, .int .i64 a5, .int .i64 a6, .bool a7] 38)).alloc (.cells #[.int .i64 b0, .int .i64 b1, .int .i64 b2, .int .i64 b3, .int .i64 b4, .int .i64 b5, .int .i64 b6, .bool b7] 38)).cell? ⟨w.heap.size, 2, none⟩ = some (.int .i64 a2) ∧ ((w.alloc (.cells #[.int .i64 a0, .int .i64 a1, .int .i64 a2, .int .i64 a3, .int .i64 a4, .int .i64 a5, .int .i64 a6, .bool a7] 38)).alloc (.cells #[.int .i64 b0, .int .i64 b1, .int .i64 b2, .int .i64 b3, .int .i64 b4, .int .i64 b5, .int .i64 b6, .bool b7] 38)).cell? ⟨w.heap.size, 3, none⟩ = some (.int .i64 a3) ∧ ((w.alloc (.cells #[.int .i64 a0, .int .i64 a1, .int .i64 a2, .int .i64 a3, .int .i64 a4, .int .i64 a5, .int .i64 a6, .bool a7] 38)).alloc (.cells #[.int .i64 b0, .int .i64 b1, .int .i64 b2, .int .i64 b3, .int .i64 b4, .int .i64 b5, .int .i64 b6, .bool b7] 38)).cell? ⟨w.heap.size, 4, none⟩ = some (.int .i64 a4) ∧ ((w.alloc (.cells #[.int .i64 a0, .int .i64 a1, .int .i64 a2, .int .i64 a3, .int .i64 a4, .int .i64 a5, .int .i64 a6, .bool a7] 38)).alloc (.cells #[.int .i64 b0, .int .i64 b1, .int .i64 b2, .int .i64 b3, .int .i64 b4, .int .i64 b5, .int .i64 b6, .bool b7] 38)).cell? ⟨w.heap.size, 5, none⟩ = some (.int .i64 a5) ∧ ((w.alloc (.cells #[.int .i64 a0, .int .i64 a1, .int .i64 a2, .int .i64 a3, .int .i64 a4, .int .i64 a5, .int .i64 a6, .bool a7] 38)).alloc (.cells #[.int .i64 b0, .int .i64 b1, .int .i64 b2, .int .i64 b3, .int .i64 b4, .int .i64 b5, .int .i64 b6, .bool b7] 38)).cell? ⟨w.heap.size, 6, none⟩ = some (.int .i64 a6) ∧ ((w.alloc (.cells #[.int .i64 a0, .int .i64 a1, .int .i64 a2, .int .i64 a3, .int .i64 a4, .int .i64 a5, .int .i64 a6, .bool a7] 38)).alloc (.cells #[.int .i64 b0, .int .i64 b1, .int .i64 b2, .int .i64 b3, .int .i64 b4, .int .i64 b5, .int .i64 b6, .bool b7] 38)).cell? ⟨w.heap.size, 7, none⟩ = some (.bool a7)) ∧ (((w.alloc (.cells #[.int .i64 a0, .int .i64 a1, .int .i64 a2, .int .i64 a3, .int .i64 a4, .int .i64 a5, .int .i64 a6, .bool a7] 38)).alloc (.cells #[.int .i64 b0, .int .i64 b1, .int .i64 b2, .int .i64 b3, .int .i64 b4, .int .i64 b5, .int .i64 b6, .bool b7] 38)).cell? ⟨w.heap.size + 1, 0, none⟩ = some (.int .i64 b0) ∧ ((w.alloc (.cells #[.int .i64 a0, .int .i64 a1, .int .i64 a2, .int .i64 a3, .int .i64 a4, .int .i64 a5, .int .i64 a6, .bool a7] 38)).alloc (.cells #[.int .i64 b0, .int .i64 b1, .int .i64 b2, .int .i64 b3, .int .i64 b4, .int .i64 b5, .int .i64 b6, .bool b7] 38)).cell? ⟨w.heap.size + 1, 1, none⟩ = some (.int .i64 b1) ∧ ((w.alloc (.cells #[.int .i64 a0, .int .i64 a1, .int .i64 a2, .int .i64 a3, .int .i64 a4, .int .i64 a5, .int .i64 a6, .bool a7] 38)).alloc (.cells #[.int .i64 b0, .int .i64 b1, .int .i64 b2, .int .i64 b3, .int .i64 b4, .int .i64 b5, .int .i64 b6, .bool b7] 38)).cell? ⟨w.heap.size + 1, 2, none⟩ = some (.int .i64 b2) ∧ ((w.alloc (.cells #[.int .i64 a0, .int .i64 a1, .int .i64 a2, .int .i64 a3, .int .i64 a4, .int .i64 a5, .int .i64 a6, .bool a7] 38)).alloc (.cells #[.int .i64 b0, .int .i64 b1, .int .i64 b2, .int .i64 b3, .int .i64 b4, .int .i64 b5, .int .i64 b6, .bool b7] 38)).cell? ⟨w.heap.size + 1, 3, none⟩ = some (.int .i64 b3) ∧ ((w.alloc (.cells #[.int .i64 a0, .int .i64 a1, .int .i64 a2, .int .i64 a3, .int .i64 a4, .int .i64 a5, .int .i64 a6, .bool a7] 38)).alloc (.cells #[.int .i64 b0, .int .i64 b1, .int .i64 b2, .int .i64 b3, .int .i64 b4, .int .i64 b5, .int .i64 b6, .bool b7] 38)).cell? ⟨w.heap.size + 1, 4, none⟩ = some (.int .i64 b4) ∧ ((w.alloc (.cells #[.int .i64 a0, .int .i64 a1, .int .i64 a2, .int .i64 a3, .int .i64 a4, .int .i64 a5, .int .i64 a6, .bool a7] 38)).alloc (.cells #[.int .i64 b0, .int .i64 b1, .int .i64 b2, .int .i64 b3, .int .i64 b4, .int .i64 b5, .int .i64 b6, .bool b7] 38)).cell? ⟨w.heap.size + 1, 5, none⟩ = some (.int .i64 b5) ∧ ((w.alloc (.cells #[.int .i64 a0, .int .i64 a1, .int .i64 a2, .int .i64 a3, .int .i64 a4, .int .i64 a5, .int .i64 a6, .bool a7] 38)).alloc (.cells #[.int .i64 b0, .int .i64 b1, .int .i64 b2, .int .i64 b3, .int .i64 b4, .int .i64 b5, .int .i64 b6, .bool b7] 38)).cell? ⟨w.heap.size + 1, 6, none⟩ = some (.int .i64 b6) ∧ ((w.alloc (.cells #[.int .i64 a0, .int .i64 a1, .int .i64 a2, .int .i64 a3, .int .i64 a4, .int .i64 a5, .int .i64 a6, .bool a7] 38)).alloc (.cells #[.int .i64 b0, .int .i64 b1, .int .i64 b2, .int .i64 b3, .int .i64 b4, .int .i64 b5, .int .i64 b6, .bool b7] 38)).cell? ⟨w.heap.size + 1, 7, none⟩ = some (.bool b7))) := by simp [go_sem]
    have zU : ((w.alloc (.cells #[.int .i64 a0, .int .i64 a1, .int .i64 a2, .int .i64 a3, .int .i64 a4, .int .i64 a5, .int .i64 a6, .bool a7] 38)).alloc (.cells #[.int .i64 b0, .int .i64 b1, .int .i64 b2, .int .i64 b3, .int .i64 b4, .int .i64 b5, .int .i64 b6, .bool b7] 38)).heap.size = w.heap.size + 2 := by simp
    generalize (w.alloc (.cells #[.int .i64 a0, .int .i64 a1, .int .i64 a2, .int .i64 a3, .int .i64 a4, .int .i64 a5, .int .i64 a6, .bool a7] 38)).alloc (.cells #[.int .i64 b0, .int .i64 b1, .int .i64 b2, .int .i64 b3, .int .i64 b4, .int .i64 b5, .int .i64 b6, .bool b7] 38) = U at *
    have lA : w.heap.size < U.heap.size := by omega
    have lB : w.heap.size + 1 < U.heap.size := by omega
    clear zU
    obtain ⟨⟨A0, A1, A2, A3, A4, A5, A6, A7⟩, ⟨B0, B1, B2, B3, B4, B5, B6, B7⟩⟩ := kU
    refine wp_region_quiet (C := fun W => Below U.heap.size U W) (by kernel_rfl) (by kernel_rfl) ((Below.refl _ _).drew) ?_
    dsimp only
    go_big_quiet_want; refine ⟨.agg #[.int .i64 a0, .int .i64 a1, .int .i64 a2, .int .i64 a3, .int .i64 a4, .int .i64 a5, .int .i64 a6, .bool a7], fun W hW => (by have y0 := (hW.cell (p := ⟨w.heap.size, 0, none⟩) lA).trans A0; have y1 := (hW.cell (p := ⟨w.heap.size, 1, none⟩) lA).trans A1; have y2 := (hW.cell (p := ⟨w.heap.size, 2, none⟩) lA).trans A2; have y3 := (hW.cell (p := ⟨w.heap.size, 3, none⟩) lA).trans A3; have y4 := (hW.cell (p := ⟨w.heap.size, 4, none⟩) lA).trans A4; have y5 := (hW.cell (p := ⟨w.heap.size, 5, none⟩) lA).trans A5; have y6 := (hW.cell (p := ⟨w.heap.size, 6, none⟩) lA).trans A6; have y7 := (hW.cell (p := ⟨w.heap.size, 7, none⟩) lA).trans A7; simp [Oper.quietAt, Oper.quietUpon, go_sem, y0, y1, y2, y3, y4, y5, y6, y7]), ?_⟩; simp only [Act.put, List.setIfInBounds_toArray, List.set_cons_zero, List.set_cons_succ]; go_big_quiet_on
    go_big_quiet_want; go_big_quiet_op; refine ⟨_, fun W hW => quietCall hW (HA W).out, ?_⟩; go_big_quiet_on
    first | go_big_quiet_skip | (go_big_quiet_want; go_big_quiet_op; first | go_big_quiet_on | (refine ⟨_, fun _ _ => rfl, ?_⟩; go_big_quiet_on))
    go_big_quiet_want; refine ⟨.agg #[.int .i64 b0, .int .i64 b1, .int .i64 b2, .int .i64 b3, .int .i64 b4, .int .i64 b5, .int .i64 b6, .bool b7], fun W hW => (by have y0 := (hW.cell (p := ⟨w.heap.size + 1, 0, none⟩) lB).trans B0; have y1 := (hW.cell (p := ⟨w.heap.size + 1, 1, none⟩) lB).trans B1; have y2 := (hW.cell (p := ⟨w.heap.size + 1, 2, none⟩) lB).trans B2; have y3 := (hW.cell (p := ⟨w.heap.size + 1, 3, none⟩) lB).trans B3; have y4 := (hW.cell (p := ⟨w.heap.size + 1, 4, none⟩) lB).trans B4; have y5 := (hW.cell (p := ⟨w.heap.size + 1, 5, none⟩) lB).trans B5; have y6 := (hW.cell (p := ⟨w.heap.size + 1, 6, none⟩) lB).trans B6; have y7 := (hW.cell (p := ⟨w.heap.size + 1, 7, none⟩) lB).trans B7; simp [Oper.quietAt, Oper.quietUpon, go_sem, y0, y1, y2, y3, y4, y5, y6, y7]), ?_⟩; simp only [Act.put, List.setIfInBounds_toArray, List.set_cons_zero, List.set_cons_succ]; go_big_quiet_on
    go_big_quiet_want; go_big_quiet_op; refine ⟨_, fun W hW => quietCall hW (HB W).out, ?_⟩; go_big_quiet_on
    first | go_big_quiet_skip | (go_big_quiet_want; go_big_quiet_op; first | go_big_quiet_on | (refine ⟨_, fun _ _ => rfl, ?_⟩; go_big_quiet_on))
    first | go_big_quiet_skip | (go_big_quiet_want; go_big_quiet_op; first | go_big_quiet_on | (refine ⟨_, fun _ _ => rfl, ?_⟩; go_big_quiet_on))
    first | go_big_quiet_skip | (go_big_quiet_want; go_big_quiet_op; first | go_big_quiet_on | (refine ⟨_, fun _ _ => rfl, ?_⟩; go_big_quiet_on))
    first | go_big_quiet_skip | (go_big_quiet_want; go_big_quiet_op; first | go_big_quiet_on | (refine ⟨_, fun _ _ => rfl, ?_⟩; go_big_quiet_on))
    first | go_big_quiet_skip | (go_big_quiet_want; go_big_quiet_op; first | go_big_quiet_on | (refine ⟨_, fun _ _ => rfl, ?_⟩; go_big_quiet_on))
    first | go_big_quiet_skip | (go_big_quiet_want; go_big_quiet_op; first | go_big_quiet_on | (refine ⟨_, fun _ _ => rfl, ?_⟩; go_big_quiet_on))
    first | go_big_quiet_skip | (go_big_quiet_want; go_big_quiet_op; first | go_big_quiet_on | (refine ⟨_, fun _ _ => rfl, ?_⟩; go_big_quiet_on))
    first | go_big_quiet_skip | (go_big_quiet_want; go_big_quiet_op; first | go_big_quiet_on | (refine ⟨_, fun _ _ => rfl, ?_⟩; go_big_quiet_on))
    first | go_big_quiet_skip | (go_big_quiet_want; go_big_quiet_op; first | go_big_quiet_on | (refine ⟨_, fun _ _ => rfl, ?_⟩; go_big_quiet_on))
    refine wpQuiet_nil ?_
    intro X hX
    go_wp2
    go_ret
    exact ⟨by rw [HO.out]; rfl, bU0.trans (hX.mono (by omega))⟩
  · have HNA := fun W => Lib.hid (nameNumber_any _ W ha)
    have HNB := fun W => Lib.hid (nameNumber_any _ W hb)
    have hd := show nmLessB ⟨a0, a1, a2, a3, a4, a5, a6, a7⟩ ⟨b0, b1, b2, b3, b4, b5, b6, b7⟩ = decide (nmN ⟨a0, a1, a2, a3, a4, a5, a6, a7⟩ < nmN ⟨b0, b1, b2, b3, b4, b5, b6, b7⟩) by simp [nmLessB, ha, hb]
    rw [ha] at HA
    rw [hb] at HB
    clear ha hb
    generalize nmN ⟨a0, a1, a2, a3, a4, a5, a6, a7⟩ = x at *
    generalize nmN ⟨b0, b1, b2, b3, b4, b5, b6, b7⟩ = y at *
    have HO := Lib.hid (show nmLessB ⟨a0, a1, a2, a3, a4, a5, a6, a7⟩ ⟨b0, b1, b2, b3, b4, b5, b6, b7⟩ = decide (x < y) from hd)
    clear hd
    unfold nmV at *
    go_enter Tryz.func224, Tryz.ntmps224
    go_wp2_with fail
    have bU0 := HB0.out (.cells #[.int .i64 a0, .int .i64 a1, .int .i64 a2, .int .i64 a3, .int .i64 a4, .int .i64 a5, .int .i64 a6, .bool a7] 38) (.cells #[.int .i64 b0, .int .i64 b1, .int .i64 b2, .int .i64 b3, .int .i64 b4, .int .i64 b5, .int .i64 b6, .bool b7] 38)
    have kU : ((((w.alloc (.cells #[.int .i64 a0, .int .i64 a1, .int .i64 a2, .int .i64 a3, .int .i64 a4, .int .i64 a5, .int .i64 a6, .bool a7] 38)).alloc (.cells #[.int .i64 b0, .int .i64 b1, .int .i64 b2, .int .i64 b3, .int .i64 b4, .int .i64 b5, .int .i64 b6, .bool b7] 38)).cell? ⟨w.heap.size, 0, none⟩ = some (.int .i64 a0) ∧ ((w.alloc (.cells #[.int .i64 a0, .int .i64 a1, .int .i64 a2, .int .i64 a3, .int .i64 a4, .int .i64 a5, .int .i64 a6, .bool a7] 38)).alloc (.cells #[.int .i64 b0, .int .i64 b1, .int .i64 b2, .int .i64 b3, .int .i64 b4, .int .i64 b5, .int .i64 b6, .bool b7] 38)).cell? ⟨w.heap.size, 1, none⟩ = some (.int .i64 a1) ∧ ((w.alloc (.cells #[.int .i64 a0, .int .i64 a1, .int .i64 a2, .int .i64 a3, .int .i64 a4, .int .i64 a5, .int .i64 a6, .bool a7] 38)).alloc (.cells #[.int .i64 b0, .int .i64 b1, .int .i64 b2, .int .i64 b3, .int .i64 b4, .int .i64 b5, .int .i64 b6, .bool b7] 38)).cell? ⟨w.heap.size, 2, none⟩ = some (.int .i64 a2) ∧ ((w.alloc (.cells #[.int .i64 a0, .int .i64 a1, .int .i64 a2, .int .i64 a3, .int .i64 a4, .int .i64 a5, .int .i64 a6, .bool a7] 38)).alloc (.cells #[.int .i64 b0, .int .i64 b1, .int .i64 b2, .int .i64 b3, .int .i64 b4, .int .i64 b5, .int .i64 b6, .bool b7] 38)).cell? ⟨w.heap.size, 3, none⟩ = some (.int .i64 a3) ∧ ((w.alloc (.cells #[.int .i64 a0, .int .i64 a1, .int .i64 a2, .int .i64 a3, .int .i64 a4, .int .i64 a5, .int .i64 a6, .bool a7] 38)).alloc (.cells #[.int .i64 b0, .int .i64 b1, .int .i64 b2, .int .i64 b3, .int .i64 b4, .int .i64 b5, .int .i64 b6, .bool b7] 38)).cell? ⟨w.heap.size, 4, none⟩ = some (.int .i64 a4) ∧ ((w.alloc (.cells #[.int .i64 a0, .int .i64 a1, .int .i64 a2, .int .i64 a3, .int .i64 a4, .int .i64 a5, .int .i64 a6, .bool a7] 38)).alloc (.cells #[.int .i64 b0, .int .i64 b1, .int .i64 b2, .int .i64 b3, .int .i64 b4, .int .i64 b5, .int .i64 b6, .bool b7] 38)).cell? ⟨w.heap.size, 5, none⟩ = some (.int .i64 a5) ∧ ((w.alloc (.cells #[.int .i64 a0, .int .i64 a1, .int .i64 a2, .int .i64 a3, .int .i64 a4, .int .i64 a5, .int .i64 a6, .bool a7] 38)).alloc (.cells #[.int .i64 b0, .int .i64 b1, .int .i64 b2, .int .i64 b3, .int .i64 b4, .int .i64 b5, .int .i64 b6, .bool b7] 38)).cell? ⟨w.heap.size, 6, none⟩ = some (.int .i64 a6) ∧ ((w.alloc (.cells #[.int .i64 a0, .int .i64 a1, .int .i64 a2, .int .i64 a3, .int .i64 a4, .int .i64 a5, .int .i64 a6, .bool a7] 38)).alloc (.cells #[.int .i64 b0, .int .i64 b1, .int .i64 b2, .int .i64 b3, .int .i64 b4, .int .i64 b5, .int .i64 b6, .bool b7] 38)).cell? ⟨w.heap.size, 7, none⟩ = some (.bool a7)) ∧ (((w.alloc (.cells #[.int .i64 a0, .int .i64 a1, .int .i64 a2, .int .i64 a3, .int .i64 a4, .int .i64 a5, .int .i64 a6, .bool a7] 38)).alloc (.cells #[.int .i64 b0, .int .i64 b1, .int .i64 b2, .int .i64 b3, .int .i64 b4, .int .i64 b5, .int .i64 b6, .bool b7] 38)).cell? ⟨w.heap.size + 1, 0, none⟩ = some (.int .i64 b0) ∧ ((w.alloc (.cells #[.int .i64 a0, .int .i64 a1, .int .i64 a2, .int .i64 a3, .int .i64 a4, .int .i64 a5, .int .i64 a6, .bool a7] 38)).alloc (.cells #[.int .i64 b0, .int .i64 b1, .int .i64 b2, .int .i64 b3, .int .i64 b4, .int .i64 b5, .int .i64 b6, .bool b7] 38)).cell? ⟨w.heap.size + 1, 1, none⟩ = some (.int .i64 b1) ∧ ((w.alloc (.cells #[.int .i64 a0, .int .i64 a1, .int .i64 a2, .int .i64 a3, .int .i64 a4, .int .i64 a5, .int .i64 a6, .bool a7] 38)).alloc (.cells #[.int .i64 b0, .int .i64 b1, .int .i64 b2, .int .i64 b3, .int .i64 b4, .int .i64 b5, .int .i64 b6, .bool b7] 38)).cell? ⟨w.heap.size + 1, 2, none⟩ = some (.int .i64 b2) ∧ ((w.alloc (.cells #[.int .i64 a0, .int .i64 a1, .int .i64 a2, .int .i64 a3, .int .i64 a4, .int .i64 a5, .int .i64 a6, .bool a7] 38)).alloc (.cells #[.int .i64 b0, .int .i64 b1, .int .i64 b2, .int .i64 b3, .int .i64 b4, .int .i64 b5, .int .i64 b6, .bool b7] 38)).cell? ⟨w.heap.size + 1, 3, none⟩ = some (.int .i64 b3) ∧ ((w.alloc (.cells #[.int .i64 a0, .int .i64 a1, .int .i64 a2, .int .i64 a3, .int .i64 a4, .int .i64 a5, .int .i64 a6, .bool a7] 38)).alloc (.cells #[.int .i64 b0, .int .i64 b1, .int .i64 b2, .int .i64 b3, .int .i64 b4, .int .i64 b5, .int .i64 b6, .bool b7] 38)).cell? ⟨w.heap.size + 1, 4, none⟩ = some (.int .i64 b4) ∧ ((w.alloc (.cells #[.int .i64 a0, .int .i64 a1, .int .i64 a2, .int .i64 a3, .int .i64 a4, .int .i64 a5, .int .i64 a6, .bool a7] 38)).alloc (.cells #[.int .i64 b0, .int .i64 b1, .int .i64 b2, .int .i64 b3, .int .i64 b4, .int .i64 b5, .int .i64 b6, .bool b7] 38)).cell? ⟨w.heap.size + 1, 5, none⟩ = some (.int .i64 b5) ∧ ((w.alloc (.cells #[.int .i64 a0, .int .i64 a1, .int .i64 a2, .int .i64 a3, .int .i64 a4, .int .i64 a5, .int .i64 a6, .bool a7] 38)).alloc (.cells #[.int .i64 b0, .int .i64 b1, .int .i64 b2, .int .i64 b3, .int .i64 b4, .int .i64 b5, .int .i64 b6, .bool b7] 38)).cell? ⟨w.heap.size + 1, 6, none⟩ = some (.int .i64 b6) ∧ ((w.alloc (.cells #[.int .i64 a0, .int .i64 a1, .int .i64 a2, .int .i64 a3, .int .i64 a4, .int .i64 a5, .int .i64 a6, .bool a7] 38)).alloc (.cells #[.int .i64 b0, .int .i64 b1, .int .i64 b2, .int .i64 b3, .int .i64 b4, .int .i64 b5, .int .i64 b6, .bool b7] 38)).cell? ⟨w.heap.size + 1, 7, none⟩ = some (.bool b7))) := by simp [go_sem]
    have zU : ((w.alloc (.cells #[.int .i64 a0, .int .i64 a1, .int .i64 a2, .int .i64 a3, .int .i64 a4, .int .i64 a5, .int .i64 a6, .bool a7] 38)).alloc (.cells #[.int .i64 b0, .int .i64 b1, .int .i64 b2, .int .i64 b3, .int .i64 b4, .int .i64 b5, .int .i64 b6, .bool b7] 38)).heap.size = w.heap.size + 2 := by simp
    generalize (w.alloc (.cells #[.int .i64 a0, .int .i64 a1, .int .i64 a2, .int .i64 a3, .int .i64 a4, .int .i64 a5, .int .i64 a6, .bool a7] 38)).alloc (.cells #[.int .i64 b0, .int .i64 b1, .int .i64 b2, .int .i64 b3, .int .i64 b4, .int .i64 b5, .int .i64 b6, .bool b7] 38) = U at *
    have hK : ∀ W, Below U.heap.size U W → (fun W => ((W.cell? ⟨w.heap.size, 0, none⟩ = some (.int .i64 a0) ∧ W.cell? ⟨w.heap.size, 1, none⟩ = some (.int .i64 a1) ∧ W.cell? ⟨w.heap.size, 2, none⟩ = some (.int .i64 a2) ∧ W.cell? ⟨w.heap.size, 3, none⟩ = some (.int .i64 a3) ∧ W.cell? ⟨w.heap.size, 4, none⟩ = some (.int .i64 a4) ∧ W.cell? ⟨w.heap.size, 5, none⟩ = some (.int .i64 a5) ∧ W.cell? ⟨w.heap.size, 6, none⟩ = some (.int .i64 a6) ∧ W.cell? ⟨w.heap.size, 7, none⟩ = some (.bool a7)) ∧ (W.cell? ⟨(w.heap.size + 1), 0, none⟩ = some (.int .i64 b0) ∧ W.cell? ⟨(w.heap.size + 1), 1, none⟩ = some (.int .i64 b1) ∧ W.cell? ⟨(w.heap.size + 1), 2, none⟩ = some (.int .i64 b2) ∧ W.cell? ⟨(w.heap.size + 1), 3, none⟩ = some (.int .i64 b3) ∧ W.cell? ⟨(w.heap.size + 1), 4, none⟩ = some (.int .i64 b4) ∧ W.cell? ⟨(w.heap.size + 1), 5, none⟩ = some (.int .i64 b5) ∧ W.cell? ⟨(w.heap.size + 1), 6, none⟩ = some (.int .i64 b6) ∧ W.cell? ⟨(w.heap.size + 1), 7, none⟩ = some (.bool b7))) ∧ Below U.heap.size U W) W := fun W hW => ⟨by simp only [hW.cell (p := ⟨w.heap.size, _, none⟩) (show w.heap.size < U.heap.size by omega), hW.cell (p := ⟨w.heap.size + 1, _, none⟩) (show w.heap.size + 1 < U.heap.size by omega)]; exact kU, hW⟩
    have HK := Lib.hid hK
    have hS : ∀ W W', (fun W => ((W.cell? ⟨w.heap.size, 0, none⟩ = some (.int .i64 a0) ∧ W.cell? ⟨w.heap.size, 1, none⟩ = some (.int .i64 a1) ∧ W.cell? ⟨w.heap.size, 2, none⟩ = some (.int .i64 a2) ∧ W.cell? ⟨w.heap.size, 3, none⟩ = some (.int .i64 a3) ∧ W.cell? ⟨w.heap.size, 4, none⟩ = some (.int .i64 a4) ∧ W.cell? ⟨w.heap.size, 5, none⟩ = some (.int .i64 a5) ∧ W.cell? ⟨w.heap.size, 6, none⟩ = some (.int .i64 a6) ∧ W.cell? ⟨w.heap.size, 7, none⟩ = some (.bool a7)) ∧ (W.cell? ⟨(w.heap.size + 1), 0, none⟩ = some (.int .i64 b0) ∧ W.cell? ⟨(w.heap.size + 1), 1, none⟩ = some (.int .i64 b1) ∧ W.cell? ⟨(w.heap.size + 1), 2, none⟩ = some (.int .i64 b2) ∧ W.cell? ⟨(w.heap.size + 1), 3, none⟩ = some (.int .i64 b3) ∧ W.cell? ⟨(w.heap.size + 1), 4, none⟩ = some (.int .i64 b4) ∧ W.cell? ⟨(w.heap.size + 1), 5, none⟩ = some (.int .i64 b5) ∧ W.cell? ⟨(w.heap.size + 1), 6, none⟩ = some (.int .i64 b6) ∧ W.cell? ⟨(w.heap.size + 1), 7, none⟩ = some (.bool b7))) ∧ Below U.heap.size U W) W → Below W.heap.size W W' → Below U.heap.size U W' := fun W W' hW h => hW.2.trans (h.mono hW.2.size)
    have HS := Lib.hid hS
    clear hK hS kU
    first
      | (go_region_held3 (fun W => ((W.cell? ⟨w.heap.size, 0, none⟩ = some (.int .i64 a0) ∧ W.cell? ⟨w.heap.size, 1, none⟩ = some (.int .i64 a1) ∧ W.cell? ⟨w.heap.size, 2, none⟩ = some (.int .i64 a2) ∧ W.cell? ⟨w.heap.size, 3, none⟩ = some (.int .i64 a3) ∧ W.cell? ⟨w.heap.size, 4, none⟩ = some (.int .i64 a4) ∧ W.cell? ⟨w.heap.size, 5, none⟩ = some (.int .i64 a5) ∧ W.cell? ⟨w.heap.size, 6, none⟩ = some (.int .i64 a6) ∧ W.cell? ⟨w.heap.size, 7, none⟩ = some (.bool a7)) ∧ (W.cell? ⟨(w.heap.size + 1), 0, none⟩ = some (.int .i64 b0) ∧ W.cell? ⟨(w.heap.size + 1), 1, none⟩ = some (.int .i64 b1) ∧ W.cell? ⟨(w.heap.size + 1), 2, none⟩ = some (.int .i64 b2) ∧ W.cell? ⟨(w.heap.size + 1), 3, none⟩ = some (.int .i64 b3) ∧ W.cell? ⟨(w.heap.size + 1), 4, none⟩ = some (.int .i64 b4) ∧ W.cell? ⟨(w.heap.size + 1), 5, none⟩ = some (.int .i64 b5) ∧ W.cell? ⟨(w.heap.size + 1), 6, none⟩ = some (.int .i64 b6) ∧ W.cell? ⟨(w.heap.size + 1), 7, none⟩ = some (.bool b7))) ∧ Below U.heap.size U W)
          (first | exact HK.out _ (Below.refl _ _).drew | exact HK.out _ (by assumption))
          (first
            | (go_at_call 186; with_reducible refine (HA _).out.mono ?_; rintro e w1 ⟨rfl, h1⟩; have q1 := HS.out _ _ (by assumption) h1; clear h1)
            | (go_at_call 186; with_reducible refine (HB _).out.mono ?_; rintro e w1 ⟨rfl, h1⟩; have q1 := HS.out _ _ (by assumption) h1; clear h1)
            | (go_at_call 243; with_reducible refine (HNA _).out.mono ?_; rintro e w1 ⟨rfl, h1⟩; have q1 := HS.out _ _ (by assumption) h1; clear h1)
            | (go_at_call 243; with_reducible refine (HNB _).out.mono ?_; rintro e w1 ⟨rfl, h1⟩; have q1 := HS.out _ _ (by assumption) h1; clear h1)))
      | fail
    all_goals
      go_wp2
      go_ret
      exact ⟨by rw [HO.out]; rfl, bU0.trans ((by assumption : Below U.heap.size U _).mono (by omega))⟩
end Go.Proofs.YtioldepgoodipaaGreat
