/- Whether a Claim is right: the program's. Nothing that was there is written. -/
import Derived.Test.YtpolpkheaibonaaClaimRight
namespace Go.Proofs.Ytpolpkheaibonaa
open Go.RowKit
set_option linter.unusedVariables false

/-- What its state asks of an address and of what is left. -/
def stB (ad st lf : Int) : Bool :=
  if st = 1 then inB 0 251 ad && inB 1 250 lf else if st = 2 then inB 0 251 ad && decide (lf = 0) else if st = 3 then decide (ad = 254) && decide (lf = 0) else false
theorem stB_eq (c : Cl) : stateB c = stB c.ad c.st c.lf := rfl
set_option maxRecDepth 100000 in
set_option maxHeartbeats 2000000 in
theorem stateRight_any (n : Nm) (ad st lf : Int) (v : Value) (w : World) :
    Calls Try.prog 119 #[clV n ad st lf v] w fun e w' => e = .returned (.bool (stB ad st lf)) ∧ Below w.heap.size w w' := by
  obtain ⟨n0, n1, n2, n3, n4, n5, n6, n7⟩ := n
  unfold clV
  dsimp only
  obtain ⟨R, hR⟩ : ∃ R, stB ad st lf = R := ⟨_, rfl⟩
  have HS := Lib.hid (show (if st = 1 then inB 0 251 ad && inB 1 250 lf else if st = 2 then inB 0 251 ad && decide (lf = 0) else if st = 3 then decide (ad = 254) && decide (lf = 0) else false) = R from hR)
  rw [hR]
  clear hR
  have HA := fun W => Lib.hid (from0_any ad 251 W)
  by_cases s1 : st = 1
  · subst s1
    rcases ha : inB 0 251 ad
    · have HO := Lib.hid (show R = false by rw [← HS.out, if_pos rfl, ha]; rfl)
      rw [ha] at HA
      clear HS ha
      go_enter Try.func119, Try.ntmps119
      go_wp2_with (go_at_call 48; refine (HA _).out.mono ?_; rintro e w' ⟨rfl, rfl⟩)
      go_ret
      exact ⟨by rw [HO.out]; rfl, (Below.refl _ _).alloc (Nat.le_refl _) _⟩
    rw [ha] at HA
    have HL := HS.out
    rw [if_pos rfl, ha, Bool.true_and] at HL
    clear HS ha
    by_cases h1 : 1 ≤ lf
    · have hd : decide (1 ≤ lf) = true := decide_eq_true h1
      have HO := Lib.hid (show R = decide (lf ≤ 250) by rw [← HL]; simp [inB, hd])
      clear HL h1
      go_enter Try.func119, Try.ntmps119
      go_wp2_with (go_at_call 48; refine (HA _).out.mono ?_; rintro e w' ⟨rfl, rfl⟩)
      go_ret
      exact ⟨by rw [HO.out]; rfl, (Below.refl _ _).alloc (Nat.le_refl _) _⟩
    · have hd : decide (1 ≤ lf) = false := decide_eq_false h1
      have HO := Lib.hid (show R = false by rw [← HL]; simp [inB, hd])
      clear HL h1
      go_enter Try.func119, Try.ntmps119
      go_wp2_with (go_at_call 48; refine (HA _).out.mono ?_; rintro e w' ⟨rfl, rfl⟩)
      go_ret
      exact ⟨by rw [HO.out]; rfl, (Below.refl _ _).alloc (Nat.le_refl _) _⟩
  have hs1 : (st == 1) = false := by simpa using s1
  by_cases s2 : st = 2
  · subst s2
    rcases ha : inB 0 251 ad
    · have HO := Lib.hid (show R = false by rw [← HS.out, if_neg s1, if_pos rfl, ha]; rfl)
      rw [ha] at HA
      clear HS ha s1
      go_enter Try.func119, Try.ntmps119
      go_wp2_with (go_at_call 48; refine (HA _).out.mono ?_; rintro e w' ⟨rfl, rfl⟩)
      go_ret
      exact ⟨by rw [HO.out]; rfl, (Below.refl _ _).alloc (Nat.le_refl _) _⟩
    rw [ha] at HA
    have HL := HS.out
    rw [if_neg s1, if_pos rfl, ha, Bool.true_and] at HL
    clear HS ha s1
    by_cases h1 : 0 ≤ lf
    · have hd : decide (0 ≤ lf) = true := decide_eq_true h1
      have HO := Lib.hid (show R = decide (lf ≤ 0) by rw [← HL]; exact decide_eq_decide.2 (by omega))
      clear HL h1
      go_enter Try.func119, Try.ntmps119
      go_wp2_with (go_at_call 48; refine (HA _).out.mono ?_; rintro e w' ⟨rfl, rfl⟩)
      go_ret
      exact ⟨by rw [HO.out]; rfl, (Below.refl _ _).alloc (Nat.le_refl _) _⟩
    · have hd : decide (0 ≤ lf) = false := decide_eq_false h1
      have HO := Lib.hid (show R = false by rw [← HL]; exact decide_eq_false (by omega))
      clear HL h1
      go_enter Try.func119, Try.ntmps119
      go_wp2_with (go_at_call 48; refine (HA _).out.mono ?_; rintro e w' ⟨rfl, rfl⟩)
      go_ret
      exact ⟨by rw [HO.out]; rfl, (Below.refl _ _).alloc (Nat.le_refl _) _⟩
  have hs2 : (st == 2) = false := by simpa using s2
  by_cases s3 : st = 3
  · subst s3
    by_cases ha : ad = 254
    · subst ha
      have HO := Lib.hid (show R = (lf == 0) by rw [← HS.out, if_neg s1, if_neg s2, if_pos rfl]; simp; exact (Bool.beq_eq_decide_eq lf 0).symm)
      clear HS s1 s2
      go_enter Try.func119, Try.ntmps119
      go_wp2
      go_ret
      exact ⟨by rw [HO.out]; rfl, (Below.refl _ _).alloc (Nat.le_refl _) _⟩
    · have hd : (ad == 254) = false := by simpa using ha
      have HO := Lib.hid (show R = false by rw [← HS.out, if_neg s1, if_neg s2, if_pos rfl]; simp [ha])
      clear HS s1 s2 ha
      go_enter Try.func119, Try.ntmps119
      go_wp2
      go_ret
      exact ⟨by rw [HO.out]; rfl, (Below.refl _ _).alloc (Nat.le_refl _) _⟩
  · have hs3 : (st == 3) = false := by simpa using s3
    have HO := Lib.hid (show R = false by rw [← HS.out, if_neg s1, if_neg s2, if_neg s3])
    clear HS s1 s2 s3
    go_enter Try.func119, Try.ntmps119
    go_wp2
    go_ret
    exact ⟨by rw [HO.out]; rfl, (Below.refl _ _).alloc (Nat.le_refl _) _⟩
set_option maxRecDepth 100000 in
set_option maxHeartbeats 2000000 in
theorem takenRight_any (a : Option Addr) (cap : Nat) (l : List Int) (w : World) (h : NumsIn w a l) (hlen : l.length ≤ 1048576) :
    Calls Try.prog 120 #[.slice a l.length cap] w fun e w' => e = .returned (.bool (riseB (-1) l)) ∧ w = w' := by
  obtain ⟨R, hR⟩ : ∃ R, riseB (-1) l = R := ⟨_, rfl⟩
  have HR := Lib.hid (show riseB (pvI l 0) (l.drop 0) = R from hR)
  rw [hR]
  clear hR
  obtain ⟨N, hN⟩ : ∃ N, l.length = N := ⟨_, rfl⟩
  have HN := Lib.hid hN
  rw [hN] at hlen ⊢
  clear hN
  have HI := Lib.hid h
  clear h
  go_enter Try.func120, Try.ntmps120
  go_wp2_with fail
  go_loopw [3, 8] (fun p i wr => ∃ (k : Nat) (m : Int), i = .int .i64 (k : Int) ∧ p = .int .i64 m ∧ m = pvI l k + 1 ∧ 0 ≤ m ∧ k ≤ N ∧ riseB (pvI l k) (l.drop k) = R ∧ w = wr) (fun _ i _ => N - (intOf i).toNat)
  case atStart => exact ⟨0, 0, rfl, rfl, rfl, by omega, by omega, HR.out, rfl⟩
  case round =>
    obtain ⟨k, m, rfl, rfl, hm, hm0, hk, hr, rfl⟩ := hrel
    have HM := Lib.hid hm
    have HK := Lib.hid hr
    clear hm hr HR
    by_cases hkn : k < N
    · have hkl : k < l.length := by have := HN.out; omega
      obtain ⟨b, o, rfl, hlt, hc⟩ := HI.out.at (by omega)
      have d0 := hc k _ (numAt_some hkl)
      have hi1 : (0 : Int) ≤ (k : Int) := by omega
      have hi2 : (k : Int) < (N : Int) := by omega
      have HT := Lib.hid (riseB_step hkl)
      have hx : pvI l (k + 1) = numAt l k := by simp [pvI]
      obtain ⟨x, hxx⟩ : ∃ x, numAt l k = x := ⟨_, rfl⟩
      rw [hxx] at d0 hx
      have HX := Lib.hid hx
      have HXX := Lib.hid hxx
      clear hc hx hxx
      by_cases h1 : x < m
      · have hd : decide (x < m) = true := decide_eq_true h1
        have HO := Lib.hid (show R = false by
          rw [← HK.out, HT.out, HXX.out]
          simp only [Bool.and_eq_false_iff]
          exact .inr (.inl (decide_eq_false (by have := HM.out; omega))))
        clear h1
        go_wp2_with fail
        go_ret
        exact ⟨by rw [HO.out]; rfl, rfl⟩
      have hd : decide (x < m) = false := decide_eq_false h1
      by_cases h2 : 251 < x
      · have hd2 : decide (251 < x) = true := decide_eq_true h2
        have HO := Lib.hid (show R = false by
          rw [← HK.out, HT.out, HXX.out, inB_no (by omega)]
          rfl)
        clear h1 h2
        go_wp2_with fail
        go_ret
        exact ⟨by rw [HO.out]; rfl, rfl⟩
      have hd2 : decide (251 < x) = false := decide_eq_false h2
      have hw : IntKind.i64.wrap (x + 1) = x + 1 := IntWalk.i64_in _ (by omega)
      have HN2 := Lib.hid (show riseB (pvI l (k + 1)) (l.drop (k + 1)) = R by
        rw [← HK.out, HT.out, HXX.out, inB_yes (by omega) (by omega), decide_eq_true (by have := HM.out; omega)]
        rfl)
      go_wp2_with fail
      go_roundw
      case rel => exact ⟨k + 1, x + 1, by go_num, rfl, by rw [HX.out], by omega, by omega, HN2.out, by first | rfl | trivial⟩
      case measure => simp [intOf]; omega
    · have hge : N ≤ k := by omega
      have HO := Lib.hid (show R = true by
        rw [← HK.out, List.drop_eq_nil_of_le (by have := HN.out; omega)]
        rfl)
      go_wp2_with fail
      go_ret
      exact ⟨by rw [HO.out]; rfl, rfl⟩
set_option maxRecDepth 100000 in
set_option maxHeartbeats 2000000 in
theorem implClaimRight_any (n : Nm) (ad st lf : Int) (a : Option Addr) (cap : Nat) (l : List Int) (w : World) (h : NumsIn w a l) (hlen : l.length ≤ 1048576) :
    Calls Try.prog 75 #[clV n ad st lf (.slice a l.length cap)] w fun e w' => e = .returned (.bool (clB ⟨n, ad, st, lf, l⟩)) ∧ Below w.heap.size w w' := by
  have HN := fun W => Lib.hid (implNameOk_any n W)
  have HS := fun W => Lib.hid (stateRight_any n ad st lf (.slice a l.length cap) W)
  have HT := fun W hW => Lib.hid (takenRight_any a cap l W hW hlen)
  have HI := Lib.hid h
  obtain ⟨R, hR⟩ : ∃ R, clB ⟨n, ad, st, lf, l⟩ = R := ⟨_, rfl⟩
  have HR := Lib.hid (show (okB n && (stB ad st lf && riseB (-1) l)) = R by
    rw [← hR]
    unfold clB
    rw [stB_eq]
    dsimp only
    rcases hq : riseB (-1) l
    · simp
    · have := riseB_len hq (by omega)
      rw [decide_eq_true (show l.length ≤ 252 by omega)]
      cases okB n <;> cases stB ad st lf <;> rfl)
  rw [hR]
  clear hR h
  generalize okB n = v0 at *
  generalize stB ad st lf = v1 at *
  generalize riseB (-1) l = v2 at *
  generalize l.length = N at *
  obtain ⟨n0, n1, n2, n3, n4, n5, n6, n7⟩ := n
  unfold clV at *
  unfold nmV at *
  dsimp only at *
  have b0 : Below w.heap.size w (w.alloc (.cells #[.int .i64 n0, .int .i64 n1, .int .i64 n2, .int .i64 n3, .int .i64 n4, .int .i64 n5, .int .i64 n6, .bool n7, .int .i64 ad, .int .i64 st, .int .i64 lf, .slice a N cap] 60)) := (Below.refl _ _).alloc (Nat.le_refl _) _
  have HB0 := Lib.hid b0
  have HR0 := Lib.hid (heap_alloc_new w (.cells #[.int .i64 n0, .int .i64 n1, .int .i64 n2, .int .i64 n3, .int .i64 n4, .int .i64 n5, .int .i64 n6, .bool n7, .int .i64 ad, .int .i64 st, .int .i64 lf, .slice a N cap] 60))
  clear b0
  go_enter Try.func75, Try.ntmps75
  go_wp2_with fail
  refine (HN _).out.mono ?_
  rintro e w1 ⟨rfl, h1⟩
  have HB1 := Lib.hid (HB0.out.trans (h1.mono (by simp)))
  have HR1 := Lib.hid ((h1.block _ (by simp)).trans HR0.out)
  clear h1 HR0 HB0
  cases v0
  · have HO := Lib.hid (show R = false from HR.out.symm.trans rfl)
    go_wp2_with fail
    go_ret
    exact ⟨by rw [HO.out]; rfl, HB1.out⟩
  have m0 := cell_of_row w1 w.heap.size 0 _ _ (0, 0) HR1.out
  have m1 := cell_of_row w1 w.heap.size 1 _ _ (0, 0) HR1.out
  have m2 := cell_of_row w1 w.heap.size 2 _ _ (0, 0) HR1.out
  have m3 := cell_of_row w1 w.heap.size 3 _ _ (0, 0) HR1.out
  have m4 := cell_of_row w1 w.heap.size 4 _ _ (0, 0) HR1.out
  have m5 := cell_of_row w1 w.heap.size 5 _ _ (0, 0) HR1.out
  have m6 := cell_of_row w1 w.heap.size 6 _ _ (0, 0) HR1.out
  have m7 := cell_of_row w1 w.heap.size 7 _ _ (0, 0) HR1.out
  have m8 := cell_of_row w1 w.heap.size 8 _ _ (0, 0) HR1.out
  have m9 := cell_of_row w1 w.heap.size 9 _ _ (0, 0) HR1.out
  have m10 := cell_of_row w1 w.heap.size 10 _ _ (0, 0) HR1.out
  have m11 := cell_of_row w1 w.heap.size 11 _ _ (0, 0) HR1.out
  simp only [List.getElem?_toArray, List.getElem?_cons_zero, List.getElem?_cons_succ] at m0 m1 m2 m3 m4 m5 m6 m7 m8 m9 m10 m11
  go_wp2_with fail
  refine (HS _).out.mono ?_
  rintro e w2 ⟨rfl, h2⟩
  have HB2 := Lib.hid (HB1.out.trans (h2.mono (HB1.out.size)))
  have HR2 := Lib.hid ((h2.block _ (heap_lt HR1.out)).trans HR1.out)
  clear h2 HR1 HB1 m0 m1 m2 m3 m4 m5 m6 m7 m8 m9 m10 m11
  cases v1
  · have HO := Lib.hid (show R = false from HR.out.symm.trans rfl)
    go_wp2_with fail
    go_ret
    exact ⟨by rw [HO.out]; rfl, HB2.out⟩
  have m11 := cell_of_row w2 w.heap.size 11 _ _ (0, 0) HR2.out
  simp only [List.getElem?_toArray, List.getElem?_cons_zero, List.getElem?_cons_succ] at m11
  have HO := Lib.hid (show R = v2 from HR.out.symm.trans (by simp))
  go_wp2_with fail
  refine (HT _ (HI.out.kept HB2.out)).out.mono ?_
  rintro e w3 ⟨rfl, rfl⟩
  go_wp2_with fail
  go_ret
  exact ⟨by rw [HO.out]; rfl, HB2.out⟩
end Go.Proofs.Ytpolpkheaibonaa
