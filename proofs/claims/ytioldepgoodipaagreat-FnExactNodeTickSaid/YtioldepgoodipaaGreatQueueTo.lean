/- The laws' own szQueue, toQueue, eqQueue, eqQueueOut. Nothing that was there is written. -/
import Derived.Test.YtioldepgoodipaaGreatMarkCans
namespace Go.Proofs.YtioldepgoodipaaGreat
open Go.RowKit Go.Joins
set_option linter.unusedVariables false

set_option maxHeartbeats 1000000 in
theorem szCanS_more (a : Option Addr) (cap : Nat) (l : List (Int × ByteArray)) (m0 : Int) (w : World) (h : CansIn w a l) (hok : CansOk l) (hlen : l.length ≤ maxLen) (hm0 : 0 ≤ m0) (hm1 : m0 ≤ 1048576) :
    Calls Tryz.prog 75 #[.slice a l.length cap, .int .i64 m0] w fun e w' => ∃ m : Int, e = .returned (.int .i64 m) ∧ -1 ≤ m ∧ m ≤ 1048576 ∧ (0 ≤ m → l.length ≤ 1048576) ∧ Below w.heap.size w w' := by
  unfold maxLen at hlen
  by_cases hbig : m0 < l.length
  · have hd : decide (m0 - (l.length : Int) < 0) = true := decide_eq_true (by omega)
    have hw : IntKind.i64.wrap (m0 - (l.length : Int)) = m0 - l.length := IntWalk.i64_in _ (by omega)
    go_enter Tryz.func75, Tryz.ntmps75
    go_wp2_with fail
    go_ret
    exact ⟨-1, rfl, by omega, by omega, fun q => absurd q (by omega), Below.refl _ _⟩
  · have hd : decide (m0 - (l.length : Int) < 0) = false := decide_eq_false (by omega)
    have hw : IntKind.i64.wrap (m0 - (l.length : Int)) = m0 - l.length := IntWalk.i64_in _ (by omega)
    obtain ⟨M, hM⟩ : ∃ M : Int, m0 - (l.length : Int) = M := ⟨_, rfl⟩
    rw [hM] at hd hw
    have hM1 : 0 ≤ M ∧ M ≤ 1048576 := by omega
    rcases h with rfl | ⟨b, o, rfl, hlt, hc⟩
    · go_enter Tryz.func75, Tryz.ntmps75
      go_wp2
      refine wp_loop_rounds 1 ?_
      rw [rounds_succ]; go_wp2
      go_ret
      exact ⟨_, rfl, by omega, by omega, fun _ => by simp, Below.refl _ _⟩
    · have HI := Lib.hid hc
      have HK := Lib.hid hok
      clear hc hok
      obtain ⟨N, hN⟩ : ∃ N, l.length = N := ⟨_, rfl⟩
      have HN := Lib.hid hN
      rw [hN] at hbig hM ⊢
      clear hN hlen
      have HM := Lib.hid hM
      go_enter Tryz.func75, Tryz.ntmps75
      go_wp2
      go_loopw [1, 5] (fun u i wr => ∃ (k : Nat) (m : Int), i = .int .i64 (k : Int) ∧ u = .int .i64 m ∧ k ≤ N ∧ 0 ≤ m ∧ m ≤ 1048576 ∧ Below w.heap.size w wr) (fun _ i _ => N - (intOf i).toNat)
      case atStart => exact ⟨0, M, rfl, rfl, by omega, hM1.1, hM1.2, Below.refl _ _⟩
      case round =>
        obtain ⟨k, m, rfl, rfl, hk, hm0', hm1', hb⟩ := hrel
        by_cases hkn : k < N
        · have hkl : k < l.length := by have := HN.out; omega
          have d0 := (hb.cell (p := ⟨b, _, none⟩) hlt).trans (HI.out k _ (canAt_some hkl)).1
          have d1 := (hb.cell (p := ⟨b, _, none⟩) hlt).trans (HI.out k _ (canAt_some hkl)).2
          have hg := canAt_ok HK.out hkl
          have hbs := hb.size
          generalize canAt l k = x at *
          obtain ⟨n, s⟩ := x
          simp only at d0 d1 hg
          have HC := fun W => Lib.hid (szCan_any n s m W hm0' hm1' hg.2)
          by_cases hneg : m - s.size < 0
          · rw [if_pos hneg] at HC
            have e0 : decide ((-1 : Int) < 0) = true := by decide
            go_wp2_with (go_at_call 19; refine (HC _).out.mono ?_; rintro e w1 ⟨rfl, h1⟩)
            go_ret
            exact ⟨-1, rfl, by omega, by omega, fun q => absurd q (by omega), hb.trans (h1.mono hbs)⟩
          · rw [if_neg hneg] at HC
            obtain ⟨m', hm'⟩ : ∃ m' : Int, m - s.size = m' := ⟨_, rfl⟩
            rw [hm'] at HC
            have hm2 : 0 ≤ m' ∧ m' ≤ 1048576 := by omega
            clear hm' hneg
            have e0 : decide (m' < 0) = false := decide_eq_false (by omega)
            go_wp2_with (go_at_call 19; refine (HC _).out.mono ?_; rintro e w1 ⟨rfl, h1⟩)
            go_roundw
            case rel => exact ⟨k + 1, m', by go_num, rfl, by omega, hm2.1, hm2.2, hb.trans (h1.mono hbs)⟩
            case measure => simp [intOf]; omega
        · go_wp2
          go_ret
          exact ⟨m, rfl, by omega, hm1', fun _ => by have := HM.out; omega, hb⟩
set_option maxHeartbeats 1000000 in
theorem szQueue_any (a : Option Addr) (cap : Nat) (l : List (Int × ByteArray)) (m0 : Int) (w : World) (h : CansIn w a l) (hok : CansOk l) (hlen : l.length ≤ maxLen) (hm0 : 0 ≤ m0) (hm1 : m0 ≤ 1048576) :
    Calls Tryz.prog 26 #[.agg #[.slice a l.length cap], .int .i64 m0] w fun e w' => ∃ m : Int, e = .returned (.int .i64 m) ∧ -1 ≤ m ∧ m ≤ 1048576 ∧ (0 ≤ m → l.length ≤ 1048576) ∧ Below w.heap.size w w' := by
  have H := fun W hW => Lib.hid (szCanS_more a cap l m0 W hW hok hlen hm0 hm1)
  have HC := Lib.hid h
  have HB := Lib.hid (fun o : Obj => (Below.refl w.heap.size w).alloc (Nat.le_refl _) o)
  clear h hok hlen
  go_enter Tryz.func26, Tryz.ntmps26
  go_wp2_with fail
  refine (H _ (HC.out.kept (HB.out _))).out.mono ?_
  rintro e w1 ⟨m, rfl, h1, h2, h3, h4⟩
  have b1 := (HB.out _).trans (h4.mono (by simp))
  have H3 := Lib.hid h3
  clear h3 h4
  by_cases hneg : m < 0
  · have hd : decide (m < 0) = true := decide_eq_true hneg
    go_wp2_with fail
    go_ret
    exact ⟨-1, rfl, by omega, by omega, fun q => absurd q (by omega), b1⟩
  · have hd : decide (m < 0) = false := decide_eq_false hneg
    go_wp2_with fail
    go_ret
    exact ⟨m, rfl, h1, h2, H3.out, b1⟩
set_option maxHeartbeats 1000000 in
theorem toQueue_new (a : Option Addr) (cap : Nat) (l : List (Int × ByteArray)) (w : World) (h : CansIn w a l) (hlen : l.length ≤ 1048576) :
    Calls Tryz.prog 40 #[.agg #[.slice a l.length cap]] w fun e w' => ∃ b, e = .returned (.agg #[.slice (some ⟨b, 0, none⟩) l.length l.length]) ∧ NewIn w.heap.size w'.heap.size w' (some ⟨b, 0, none⟩) l ∧ Below w.heap.size w w' := by
  have HC := Lib.hid h
  have HB := Lib.hid (fun o o' o2 : Obj => (((Below.refl w.heap.size w).alloc (Nat.le_refl _) o).alloc (by simp) o').alloc (by simp; omega) o2)
  clear h
  go_enter Tryz.func40, Tryz.ntmps40
  go_wp2_with fail
  refine (toCanS_new a cap l _ (HC.out.kept (HB.out _ _ _)) hlen).mono ?_
  rintro e w1 ⟨rfl, hn1, h1⟩
  have b1 := (HB.out _ _ _).trans (h1.mono (by simp; omega))
  have HR := ((RowAt.new _ _ _).alloc _).kept h1
  have HV := (RowAt.new _ _ _).kept h1
  simp only [World.size_alloc] at HR HV hn1 ⊢
  have HN1 := Lib.hid hn1
  have hs := HV.lt
  have x0 := HR.get 0 _ rfl
  have x1 := HR.free
  have v0 := HV.get 0 _ rfl
  have v1 := HV.free
  clear HR HV h1 hn1
  go_wp2
  refine bodyPost_ret (v := .agg #[.slice (some ⟨w.heap.size + 1 + 1 + 1, 0, none⟩) l.length l.length]) (by simp [results, Tryz.results40, go_sem, x0]) rfl
    ⟨_, rfl, ?_, (b1.setCell (by simp <;> omega) _).setCell (by simp) _⟩
  refine NewIn.wide (lo := w.heap.size + 1 + 1 + 1) (hi := w1.heap.size) (NewIn.out (lo' := w.heap.size + 1) (hi' := w.heap.size + 3) HN1.out ?_ (.inr (by omega))) (by omega) (by simp)
  exact ((Out.refl _ _ _).setCell (by simp <;> omega) (by simp <;> omega) _).setCell (by simp) (by simp <;> omega) _
set_option maxHeartbeats 1000000 in
theorem eqQueue_same (a a' : Option Addr) (cap cap' : Nat) (l : List (Int × ByteArray)) (w : World) (h : CansIn w a l) (h' : CansIn w a' l) (hlen : l.length ≤ 1048576) :
    Calls Tryz.prog 52 #[.agg #[.slice a l.length cap], .agg #[.slice a' l.length cap']] w fun e w' => e = .returned (.bool true) ∧ Below w.heap.size w w' := by
  have HC := Lib.hid h
  have HC' := Lib.hid h'
  have HB := Lib.hid (fun o o' : Obj => ((Below.refl w.heap.size w).alloc (Nat.le_refl _) o).alloc (by simp) o')
  clear h h'
  go_enter Tryz.func52, Tryz.ntmps52
  go_wp2_with fail
  refine (eqCanS_same a a' cap cap' l _ (HC.out.kept (HB.out _ _)) (HC'.out.kept (HB.out _ _)) hlen).mono ?_
  rintro e w1 ⟨rfl, h1⟩
  go_wp2
  go_ret
  exact ⟨rfl, (HB.out _ _).trans (h1.mono (by simp; omega))⟩
end Go.Proofs.YtioldepgoodipaaGreat
