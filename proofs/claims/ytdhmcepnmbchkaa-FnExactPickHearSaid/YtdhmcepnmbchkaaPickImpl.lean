/- Whether a Picker is right: the program's own way. Nothing that was there is written. -/
import Derived.Test.YtdhmcepnmbchkaaPickRight
namespace Go.Proofs.Ytdhmcepnmbchkaa
open Go.RowKit
set_option linter.unusedVariables false

set_option maxRecDepth 100000 in
set_option maxHeartbeats 8000000 in
theorem ranksRight_any (a : Option Addr) (c : Nat) (r : List Int) (w : World) (h : NumsIn w a r) (hr : r.length ≤ maxLen) (hc : r.length ≤ c) :
    Calls Try.prog 95 #[.slice a r.length c] w fun e w' => e = .returned (.bool (ranksB r)) ∧ w = w' := by
  have hr' := hr
  unfold maxLen at hr
  obtain ⟨V, hV⟩ : ∃ V, ranksB r = V := ⟨_, rfl⟩
  have HVl := Lib.hid (fun k => hV.symm.trans (@ranksB_long r k))
  have HVi := Lib.hid (fun i hi k => hV.symm.trans (@ranksB_no r i hi k))
  have HVy := Lib.hid (fun k1 k2 => hV.symm.trans (@ranksB_yes r k1 k2))
  rw [hV]
  have HI := Lib.hid h
  have HT := fun W x k (hW : NumsIn W a r) (hk : k ≤ r.length) => Lib.hid (show Calls Try.prog 96 #[.slice a k c, .int .i64 x] W fun e w' => e = .returned (.bool (decide (x ∈ r.take k))) ∧ W = w' from by
    have := contains_any a c (r.take k) x W (hW.take k) (by rw [List.length_take]; omega)
    rwa [List.length_take, Nat.min_eq_left hk] at this)
  clear h hV hr'
  obtain ⟨N, hN⟩ : ∃ N, r.length = N := ⟨_, rfl⟩
  have HN := Lib.hid hN
  rw [hN] at hr hc HT ⊢
  clear hN
  by_cases g1 : 5 < N
  · have hd : decide (5 < (N : Int)) = true := decide_eq_true (by omega)
    have hv := Lib.hid (HVl.out (by have := HN.out; omega))
    go_enter Try.func95, Try.ntmps95
    go_wp2_with fail
    go_ret
    exact ⟨by rw [hv.out]; rfl, rfl⟩
  have hd : decide (5 < (N : Int)) = false := decide_eq_false (by omega)
  go_enter Try.func95, Try.ntmps95
  go_wp2_with fail
  go_loopw [3, 4, 10] (fun _ _ i wr => ∃ k : Nat, i = .int .i64 (k : Int) ∧ k ≤ N ∧ (∀ j, j < k → rankAt r j = true) ∧ w = wr) (fun _ _ i _ => N - (intOf i).toNat)
  case atStart => exact ⟨0, rfl, by omega, fun j hj => absurd hj (by omega), rfl⟩
  case round =>
    obtain ⟨k, rfl, hk, hall, rfl⟩ := hrel
    have HA := Lib.hid hall
    clear hall
    by_cases hkn : k < N
    · have hkl : k < r.length := by have := HN.out; omega
      have hi1 : (0 : Int) ≤ (k : Int) := by omega
      have hi2 : (k : Int) < (N : Int) := by omega
      have hi3 : (k : Int) ≤ (c : Int) := by omega
      obtain ⟨B, o, ha, hlt, hcs⟩ := HI.out.at (by omega)
      have HC := Lib.hid (hcs k _ (numAt_some hkl))
      have HE := Lib.hid (show rankAt r k = (inB 0 251 (numAt r k) && !(decide (numAt r k ∈ r.take k))) from rfl)
      have HNo := Lib.hid (HVi.out k hkl)
      have HTk := Lib.hid ((HT w (numAt r k) k HI.out (by omega)).out)
      clear hcs
      subst ha
      generalize numAt r k = x at *
      generalize decide (x ∈ r.take k) = there at *
      go_wp2_with (first
        | (refine wpList_load_one1 rfl 2 (.tmp 13) rfl B (o + k) rfl (.int .i64 x) HC.out _ Try.underlying2 rfl ?_))
      refine (from0_any x 251 w).mono ?_
      rcases c1 : inB 0 251 x
      · rintro e w2 ⟨rfl, rfl⟩
        have hv := Lib.hid (HNo.out (by rw [HE.out, c1]; rfl))
        go_wp2_with fail
        go_ret
        exact ⟨by rw [hv.out]; rfl, rfl⟩
      · rintro e w2 ⟨rfl, rfl⟩
        go_wp2_with fail
        refine HTk.out.mono ?_
        rintro e w2 ⟨rfl, rfl⟩
        rcases there with _ | _
        · have HT2 := Lib.hid (show rankAt r k = true by rw [HE.out, c1]; rfl)
          go_wp2_with fail
          go_roundw
          case rel => exact ⟨k + 1, by go_num, by omega, fun j hj => (Nat.lt_or_ge j k).elim (HA.out j) (fun g => (show j = k by omega) ▸ HT2.out), by first | rfl | trivial⟩
          case measure => simp [intOf]; omega
        · have hv := Lib.hid (HNo.out (by rw [HE.out, c1]; rfl))
          go_wp2_with fail
          go_ret
          exact ⟨by rw [hv.out]; rfl, rfl⟩
    · have hv := Lib.hid (HVy.out (by have := HN.out; omega) (fun i hi => HA.out i (by have := HN.out; omega)))
      go_wp2_with fail
      go_ret
      exact ⟨by rw [hv.out]; rfl, rfl⟩
set_option maxRecDepth 100000 in
set_option maxHeartbeats 8000000 in
theorem implPickerRight_any (a b : Option Addr) (c d : Nat) (r : List Int) (q : List Hd) (w : World) (h1 : NumsIn w a r) (h2 : RsIn hdL 3 w b q) (hr : r.length ≤ maxLen) (hq : q.length ≤ maxLen) (hc : r.length ≤ c) :
    Calls Try.prog 44 #[.agg #[.slice a r.length c, .slice b q.length d]] w fun e w' => e = .returned (.bool (pkB r q)) ∧ Below w.heap.size w w' := by
  have HRk := fun W hW => Lib.hid (ranksRight_any a c r W hW hr hc)
  have HCo := fun W x hW => Lib.hid (contains_any a c r x W hW hr)
  unfold maxLen at hr hq
  obtain ⟨V, hV⟩ : ∃ V, pkB r q = V := ⟨_, rfl⟩
  have HVr := Lib.hid (show ranksB r = false → V = false from fun k => hV.symm.trans (by unfold pkB; rw [k, Bool.false_and]))
  have HVh := Lib.hid (fun i hi k => hV.symm.trans (@pkB_heard r q i hi k))
  have HVy := Lib.hid (show ranksB r = true → (∀ i, i < q.length → heardAt r q i = true) → V = true from fun k1 k2 => hV.symm.trans (by unfold pkB heardB; rw [k1, allR_yes k2]; rfl))
  rw [hV]
  have HI := Lib.hid h1
  have HJ := Lib.hid h2
  clear hV h1 h2 hc
  generalize ranksB r = rk at *
  obtain ⟨N, hN⟩ : ∃ N, r.length = N := ⟨_, rfl⟩
  obtain ⟨M, hM⟩ : ∃ M, q.length = M := ⟨_, rfl⟩
  have HM := Lib.hid hM
  rw [hN] at hr HRk HCo ⊢
  rw [hM] at hq ⊢
  clear hN hM
  go_enter Try.func44, Try.ntmps44
  go_wp2_with (first
    | (refine wpList_box_h rfl 67 (.tmp 0) rfl #[.slice a N c, .slice b M d] rfl ?_; intro w1 R1 e1 g1 b1; have HL1 := Lib.hid (show Lg w w1 [(R1, #[.slice a N c, .slice b M d], 67)] [] from (Lg.first w).box e1 g1 b1); clear g1 b1 e1)
    | (refine wpList_load_one rfl 25 (.tmp 5) rfl (R1) 0 rfl 67 #[.slice a N c, .slice b M d] (0, 0) (HL1.out.get (.head _)) (.slice a N c) rfl _ Try.underlying25 rfl (by kernel_rfl) ?_))
  have HRB := Lib.hid (HL1.out.get (.head _))
  have HB1 := Lib.hid HL1.out.below
  have HI1 := Lib.hid (HI.out.kept HB1.out)
  have HJ1 := Lib.hid (HJ.out.kept HB1.out)
  clear HL1 HI HJ
  refine (HRk _ HI1.out).out.mono ?_
  rcases rk with _ | _
  · rintro e w2 ⟨rfl, rfl⟩
    have hv := Lib.hid (HVr.out rfl)
    go_wp2_with fail
    go_ret
    exact ⟨by rw [hv.out]; rfl, HB1.out⟩
  rintro e w2 ⟨rfl, rfl⟩
  have HVy2 := Lib.hid (HVy.out rfl)
  clear HVr HVy HRk
  go_wp2_with (first
    | (refine wpList_load_one rfl 65 (.tmp 9) rfl R1 1 rfl 67 #[.slice a N c, .slice b M d] (0, 0) HRB.out (.slice b M d) rfl _ Try.underlying65 rfl (by kernel_rfl) ?_))
  go_loopw [3, 4, 12] (fun _ _ i wr => ∃ k : Nat, i = .int .i64 (k : Int) ∧ k ≤ M ∧ (∀ j, j < k → heardAt r q j = true) ∧ Below w1.heap.size w1 wr) (fun _ _ i _ => M - (intOf i).toNat)
  case atStart => exact ⟨0, rfl, by omega, fun j hj => absurd hj (by omega), Below.refl _ _⟩
  case round =>
    obtain ⟨m, rfl, hm, hall, hb⟩ := hrel
    have HA := Lib.hid hall
    have HR1 := Lib.hid ((hb.block R1 (Array.getElem?_eq_some_iff.1 HRB.out).1).trans HRB.out)
    clear hall
    by_cases hmn : m < M
    · have hml : m < q.length := by have := HM.out; omega
      have hi1 : (0 : Int) ≤ (m : Int) := by omega
      have hi2 : (m : Int) < (M : Int) := by omega
      obtain ⟨B, o, ha, hlt, hcs⟩ := HJ1.out.at (by omega)
      have lB : B < wr.heap.size := Nat.lt_of_lt_of_le hlt hb.size
      have HCs := Lib.hid (fun j v hv => (hb.cell (p := ⟨B, _, none⟩) hlt).trans (hcs m _ (hdAt_some hml) j v hv))
      have HCp := Lib.hid (fun m2 (hm2 : m = m2 + 1) j v hv => (hb.cell (p := ⟨B, _, none⟩) hlt).trans (hcs m2 _ (hdAt_some (l := q) (i := m2) (by omega)) j v hv))
      have HNi := Lib.hid (fun (W : World) (hW : Below wr.heap.size wr W) => (HI1.out.kept hb).kept hW)
      have HE := Lib.hid (show heardAt r q m = (decide ((hdAt q m).s ∈ r) && (inB (-2147483648) 2147483647 (hdAt q m).n && (inB 0 1000000 (hdAt q m).g && (decide (m = 0) || decide ((hdAt q (m - 1)).s < (hdAt q m).s))))) from rfl)
      have HNo := Lib.hid (HVh.out m hml)
      have HRx := fun W hW => Lib.hid ((HCo W (hdAt q m).s hW).out)
      clear hcs HVh
      subst ha
      generalize hdAt q m = x at *
      obtain ⟨xs, xn, xg⟩ := x
      unfold hdL at HCs
      dsimp only at *
      generalize decide (xs ∈ r) = rk at *
      go_wp2_with (first
        | (refine wpList_load_cells rfl 112 (.tmp 15) rfl B (o + m * 3) rfl [.int .i64 xs, .int .i64 xn, .int .i64 xg] HCs.out _ Try.underlying112 rfl (by kernel_rfl) ?_)
        | (refine wpList_alloc_h rfl 112 rfl (.agg #[.int .i64 0, .int .i64 0, .int .i64 0]) (by kernel_rfl) #[.int .i64 0, .int .i64 0, .int .i64 0] rfl ?_; intro v1 qR1 e1 g1 b1; have KL1 := Lib.hid (show Lg wr v1 [(qR1, #[.int .i64 0, .int .i64 0, .int .i64 0], 112)] [] from (Lg.first wr).box e1 g1 b1); clear g1 b1 e1)
        | (refine wpList_put_at rfl 112 (.tmp 4) (.tmp 16) rfl rfl (qR1) 0 rfl (.agg #[.int .i64 xs, .int .i64 xn, .int .i64 xg]) rfl #[.int .i64 xs, .int .i64 xn, .int .i64 xg] rfl 112 #[.int .i64 0, .int .i64 0, .int .i64 0] #[.int .i64 xs, .int .i64 xn, .int .i64 xg] (KL1.out.get (.head _)) (by kernel_rfl) (by kernel_rfl) (by kernel_rfl) (by kernel_rfl) ?_; intro v2 g2 o2; have KL2 := Lib.hid (show Lg wr v2 [(qR1, #[.int .i64 xs, .int .i64 xn, .int .i64 xg], 112)] [] from KL1.out.put 0 rfl g2 o2 (fun _ h => nomatch h) (fun _ h => nomatch h) rfl); clear g2 o2; have hb2 := hb.trans (KL2.out.below.mono hb.size); have HRv := Lib.hid ((KL2.out.below.block R1 (Array.getElem?_eq_some_iff.1 HR1.out).1).trans HR1.out); have HXv := Lib.hid (KL2.out.get (.head _)); have lB2 : B < v2.heap.size := Nat.lt_of_lt_of_le lB KL2.out.below.size; have HNv := Lib.hid (HNi.out v2 KL2.out.below))
        | (refine wpList_load_one rfl 25 (.tmp 17) rfl R1 0 rfl 67 #[.slice a N c, .slice (some ⟨B, o, none⟩) M d] (0, 0) HRv.out (.slice a N c) rfl _ Try.underlying25 rfl (by kernel_rfl) ?_)
        | (refine wpList_load_one rfl 2 (.tmp 19) rfl qR1 0 rfl 112 #[.int .i64 xs, .int .i64 xn, .int .i64 xg] (0, 0) HXv.out (.int .i64 xs) rfl _ Try.underlying2 rfl (by kernel_rfl) ?_))
      refine (HRx _ HNv.out).out.mono ?_
      rcases rk with _ | _
      · rintro e w2 ⟨rfl, rfl⟩
        have hv := Lib.hid (HNo.out (by rw [HE.out]; rfl))
        go_wp2_with fail
        go_ret
        exact ⟨by rw [hv.out]; rfl, HB1.out.trans (hb2.mono HB1.out.size)⟩
      rintro e w2 ⟨rfl, rfl⟩
      go_wp2_with (first
        | (refine wpList_load_one rfl 2 (.tmp 24) rfl qR1 1 rfl 112 #[.int .i64 xs, .int .i64 xn, .int .i64 xg] (0, 0) HXv.out (.int .i64 xn) rfl _ Try.underlying2 rfl (by kernel_rfl) ?_))
      refine (mayBeTold_any xn _).mono ?_
      rcases c2 : inB (-2147483648) 2147483647 xn
      · rintro e w2 ⟨rfl, rfl⟩
        have hv := Lib.hid (HNo.out (by rw [HE.out, c2]; rfl))
        go_wp2_with fail
        go_ret
        exact ⟨by rw [hv.out]; rfl, HB1.out.trans (hb2.mono HB1.out.size)⟩
      rintro e w2 ⟨rfl, rfl⟩
      go_wp2_with (first
        | (refine wpList_load_one rfl 2 (.tmp 30) rfl qR1 2 rfl 112 #[.int .i64 xs, .int .i64 xn, .int .i64 xg] (0, 0) HXv.out (.int .i64 xg) rfl _ Try.underlying2 rfl (by kernel_rfl) ?_))
      refine (from0_any xg 1000000 _).mono ?_
      rcases c3 : inB 0 1000000 xg
      · rintro e w2 ⟨rfl, rfl⟩
        have hv := Lib.hid (HNo.out (by rw [HE.out, c2, c3]; rfl))
        go_wp2_with fail
        go_ret
        exact ⟨by rw [hv.out]; rfl, HB1.out.trans (hb2.mono HB1.out.size)⟩
      rintro e w2 ⟨rfl, rfl⟩
      go_wp2_with fail
      by_cases m0 : m = 0
      · subst m0
        have HT := Lib.hid (show heardAt r q 0 = true by rw [HE.out, c2, c3]; rfl)
        have e0 : decide ((0 : Int) < ((0 : Nat) : Int)) = false := rfl
        refine wp_region_quiet (C := fun W => Below v2.heap.size v2 W) (by kernel_rfl) (by kernel_rfl) (Below.refl _ _).drew ?_
        dsimp only
        try simp only [Act.put, List.setIfInBounds_toArray, List.set_cons_zero, List.set_cons_succ]
        go_big_quiet_want; go_big_quiet_op; first | go_big_quiet_on | (refine ⟨_, fun _ _ => rfl, ?_⟩; go_big_quiet_on)
        go_big_quiet_want; go_big_quiet_op; first | go_big_quiet_on | (refine ⟨_, fun _ _ => rfl, ?_⟩; go_big_quiet_on)
        go_big_quiet_want; go_big_quiet_op; first | go_big_quiet_on | (refine ⟨_, fun _ _ => rfl, ?_⟩; go_big_quiet_on)
        first | go_big_quiet_skip | (go_big_quiet_want; go_big_quiet_op; first | go_big_quiet_on | (refine ⟨_, fun _ _ => rfl, ?_⟩; go_big_quiet_on))
        first | go_big_quiet_skip | (go_big_quiet_want; refine ⟨.slice (some ⟨B, o, none⟩) M d, fun W hW => (quietLoadOne 65 (.tmp 38) rfl R1 1 rfl _ (rowCells HRv.out hW 1 _ rfl) _ Try.underlying65 rfl), ?_⟩; simp only [Act.put, List.setIfInBounds_toArray, List.set_cons_zero, List.set_cons_succ]; go_big_quiet_on)
        first | go_big_quiet_skip | (go_big_quiet_want; go_big_quiet_op; first | go_big_quiet_on | (refine ⟨_, fun _ _ => rfl, ?_⟩; go_big_quiet_on))
        first | go_big_quiet_skip | (go_big_quiet_want; go_big_quiet_op; first | go_big_quiet_on | (refine ⟨_, fun _ _ => rfl, ?_⟩; go_big_quiet_on))
        first | go_big_quiet_skip | (go_big_quiet_want; go_big_quiet_op; first | go_big_quiet_on | (refine ⟨_, fun _ _ => rfl, ?_⟩; go_big_quiet_on))
        first | go_big_quiet_skip | (go_big_quiet_want; go_big_quiet_op; first | go_big_quiet_on | (refine ⟨_, fun _ _ => rfl, ?_⟩; go_big_quiet_on))
        first | go_big_quiet_skip | (go_big_quiet_want; refine ⟨.int .i64 ps, fun W hW => (quietLoadOne 2 (.tmp 43) rfl B (o + m2 * 3) rfl (.int .i64 ps) ((hW.cell (p := ⟨B, o + m2 * 3, none⟩) lB2).trans HP.out) _ Try.underlying2 rfl), ?_⟩; simp only [Act.put, List.setIfInBounds_toArray, List.set_cons_zero, List.set_cons_succ]; go_big_quiet_on)
        first | go_big_quiet_skip | (go_big_quiet_want; go_big_quiet_op; first | go_big_quiet_on | (refine ⟨_, fun _ _ => rfl, ?_⟩; go_big_quiet_on))
        first | go_big_quiet_skip | (go_big_quiet_want; refine ⟨.int .i64 xs, fun W hW => (quietLoadOne 2 (.tmp 45) rfl qR1 0 rfl _ (rowCells HXv.out hW 0 _ rfl) _ Try.underlying2 rfl), ?_⟩; simp only [Act.put, List.setIfInBounds_toArray, List.set_cons_zero, List.set_cons_succ]; go_big_quiet_on)
        first | go_big_quiet_skip | (go_big_quiet_want; go_big_quiet_op; first | go_big_quiet_on | (refine ⟨_, fun _ _ => rfl, ?_⟩; go_big_quiet_on))
        go_big_quiet_want; go_big_quiet_op; first | go_big_quiet_on | (refine ⟨_, fun _ _ => rfl, ?_⟩; go_big_quiet_on)
        refine wpQuiet_nil ?_
        intro X hX
        go_wp2_with fail
        go_roundw
        case rel => exact ⟨0 + 1, by go_num, by omega, fun j hj => (Nat.lt_or_ge j (0)).elim (HA.out j) (fun g => (show j = 0 by omega) ▸ HT.out), hb2.trans (hX.mono hb2.size)⟩
        case measure => simp [intOf]; omega
      obtain ⟨m2, hm2e⟩ : ∃ m2, m = m2 + 1 := ⟨m - 1, by omega⟩
      have e0 : decide ((0 : Int) < (m : Int)) = true := decide_eq_true (by omega)
      have p0 : 0 < m := by omega
      have e1 : IntKind.i64.wrap ((m : Int) - 1) = (m2 : Int) := by rw [IntWalk.i64_in _ (by omega)]; omega
      have hm1 : (0 : Int) ≤ (m2 : Int) := by omega
      have hm2 : (m2 : Int) < (M : Int) := by omega
      have HP := Lib.hid (show v2.cell? ⟨B, o + m2 * 3, none⟩ = some (.int .i64 (hdAt q m2).s) from (KL2.out.below.cell (p := ⟨B, o + m2 * 3, none⟩) lB).trans (HCp.out m2 hm2e 0 _ rfl))
      rw [show m - 1 = m2 by omega, decide_eq_false m0] at HE
      generalize (hdAt q m2).s = ps at *
      clear hm2e m0
      by_cases c7 : ps < xs
      · have HT := Lib.hid (show heardAt r q m = true by rw [HE.out, c2, c3, decide_eq_true c7]; rfl)
        have e7 : decide (xs ≤ ps) = false := decide_eq_false (by omega)
        clear c7
        refine wp_region_quiet (C := fun W => Below v2.heap.size v2 W) (by kernel_rfl) (by kernel_rfl) (Below.refl _ _).drew ?_
        dsimp only
        try simp only [Act.put, List.setIfInBounds_toArray, List.set_cons_zero, List.set_cons_succ]
        go_big_quiet_want; go_big_quiet_op; first | go_big_quiet_on | (refine ⟨_, fun _ _ => rfl, ?_⟩; go_big_quiet_on)
        go_big_quiet_want; go_big_quiet_op; first | go_big_quiet_on | (refine ⟨_, fun _ _ => rfl, ?_⟩; go_big_quiet_on)
        go_big_quiet_want; go_big_quiet_op; first | go_big_quiet_on | (refine ⟨_, fun _ _ => rfl, ?_⟩; go_big_quiet_on)
        first | go_big_quiet_skip | (go_big_quiet_want; go_big_quiet_op; first | go_big_quiet_on | (refine ⟨_, fun _ _ => rfl, ?_⟩; go_big_quiet_on))
        first | go_big_quiet_skip | (go_big_quiet_want; refine ⟨.slice (some ⟨B, o, none⟩) M d, fun W hW => (quietLoadOne 65 (.tmp 38) rfl R1 1 rfl _ (rowCells HRv.out hW 1 _ rfl) _ Try.underlying65 rfl), ?_⟩; simp only [Act.put, List.setIfInBounds_toArray, List.set_cons_zero, List.set_cons_succ]; go_big_quiet_on)
        first | go_big_quiet_skip | (go_big_quiet_want; go_big_quiet_op; first | go_big_quiet_on | (refine ⟨_, fun _ _ => rfl, ?_⟩; go_big_quiet_on))
        first | go_big_quiet_skip | (go_big_quiet_want; go_big_quiet_op; first | go_big_quiet_on | (refine ⟨_, fun _ _ => rfl, ?_⟩; go_big_quiet_on))
        first | go_big_quiet_skip | (go_big_quiet_want; go_big_quiet_op; first | go_big_quiet_on | (refine ⟨_, fun _ _ => rfl, ?_⟩; go_big_quiet_on))
        first | go_big_quiet_skip | (go_big_quiet_want; go_big_quiet_op; first | go_big_quiet_on | (refine ⟨_, fun _ _ => rfl, ?_⟩; go_big_quiet_on))
        first | go_big_quiet_skip | (go_big_quiet_want; refine ⟨.int .i64 ps, fun W hW => (quietLoadOne 2 (.tmp 43) rfl B (o + m2 * 3) rfl (.int .i64 ps) ((hW.cell (p := ⟨B, o + m2 * 3, none⟩) lB2).trans HP.out) _ Try.underlying2 rfl), ?_⟩; simp only [Act.put, List.setIfInBounds_toArray, List.set_cons_zero, List.set_cons_succ]; go_big_quiet_on)
        first | go_big_quiet_skip | (go_big_quiet_want; go_big_quiet_op; first | go_big_quiet_on | (refine ⟨_, fun _ _ => rfl, ?_⟩; go_big_quiet_on))
        first | go_big_quiet_skip | (go_big_quiet_want; refine ⟨.int .i64 xs, fun W hW => (quietLoadOne 2 (.tmp 45) rfl qR1 0 rfl _ (rowCells HXv.out hW 0 _ rfl) _ Try.underlying2 rfl), ?_⟩; simp only [Act.put, List.setIfInBounds_toArray, List.set_cons_zero, List.set_cons_succ]; go_big_quiet_on)
        first | go_big_quiet_skip | (go_big_quiet_want; go_big_quiet_op; first | go_big_quiet_on | (refine ⟨_, fun _ _ => rfl, ?_⟩; go_big_quiet_on))
        go_big_quiet_want; go_big_quiet_op; first | go_big_quiet_on | (refine ⟨_, fun _ _ => rfl, ?_⟩; go_big_quiet_on)
        refine wpQuiet_nil ?_
        intro X hX
        go_wp2_with fail
        go_roundw
        case rel => exact ⟨m + 1, by go_num, by omega, fun j hj => (Nat.lt_or_ge j (m)).elim (HA.out j) (fun g => (show j = m by omega) ▸ HT.out), hb2.trans (hX.mono hb2.size)⟩
        case measure => simp [intOf]; omega
      · have hv := Lib.hid (HNo.out (by rw [HE.out, c2, c3, decide_eq_false c7]; rfl))
        have e7 : decide (xs ≤ ps) = true := decide_eq_true (by omega)
        clear c7
        refine wp_region_quiet (C := fun W => Below v2.heap.size v2 W) (by kernel_rfl) (by kernel_rfl) (Below.refl _ _).drew ?_
        dsimp only
        try simp only [Act.put, List.setIfInBounds_toArray, List.set_cons_zero, List.set_cons_succ]
        go_big_quiet_want; go_big_quiet_op; first | go_big_quiet_on | (refine ⟨_, fun _ _ => rfl, ?_⟩; go_big_quiet_on)
        go_big_quiet_want; go_big_quiet_op; first | go_big_quiet_on | (refine ⟨_, fun _ _ => rfl, ?_⟩; go_big_quiet_on)
        go_big_quiet_want; go_big_quiet_op; first | go_big_quiet_on | (refine ⟨_, fun _ _ => rfl, ?_⟩; go_big_quiet_on)
        first | go_big_quiet_skip | (go_big_quiet_want; go_big_quiet_op; first | go_big_quiet_on | (refine ⟨_, fun _ _ => rfl, ?_⟩; go_big_quiet_on))
        first | go_big_quiet_skip | (go_big_quiet_want; refine ⟨.slice (some ⟨B, o, none⟩) M d, fun W hW => (quietLoadOne 65 (.tmp 38) rfl R1 1 rfl _ (rowCells HRv.out hW 1 _ rfl) _ Try.underlying65 rfl), ?_⟩; simp only [Act.put, List.setIfInBounds_toArray, List.set_cons_zero, List.set_cons_succ]; go_big_quiet_on)
        first | go_big_quiet_skip | (go_big_quiet_want; go_big_quiet_op; first | go_big_quiet_on | (refine ⟨_, fun _ _ => rfl, ?_⟩; go_big_quiet_on))
        first | go_big_quiet_skip | (go_big_quiet_want; go_big_quiet_op; first | go_big_quiet_on | (refine ⟨_, fun _ _ => rfl, ?_⟩; go_big_quiet_on))
        first | go_big_quiet_skip | (go_big_quiet_want; go_big_quiet_op; first | go_big_quiet_on | (refine ⟨_, fun _ _ => rfl, ?_⟩; go_big_quiet_on))
        first | go_big_quiet_skip | (go_big_quiet_want; go_big_quiet_op; first | go_big_quiet_on | (refine ⟨_, fun _ _ => rfl, ?_⟩; go_big_quiet_on))
        first | go_big_quiet_skip | (go_big_quiet_want; refine ⟨.int .i64 ps, fun W hW => (quietLoadOne 2 (.tmp 43) rfl B (o + m2 * 3) rfl (.int .i64 ps) ((hW.cell (p := ⟨B, o + m2 * 3, none⟩) lB2).trans HP.out) _ Try.underlying2 rfl), ?_⟩; simp only [Act.put, List.setIfInBounds_toArray, List.set_cons_zero, List.set_cons_succ]; go_big_quiet_on)
        first | go_big_quiet_skip | (go_big_quiet_want; go_big_quiet_op; first | go_big_quiet_on | (refine ⟨_, fun _ _ => rfl, ?_⟩; go_big_quiet_on))
        first | go_big_quiet_skip | (go_big_quiet_want; refine ⟨.int .i64 xs, fun W hW => (quietLoadOne 2 (.tmp 45) rfl qR1 0 rfl _ (rowCells HXv.out hW 0 _ rfl) _ Try.underlying2 rfl), ?_⟩; simp only [Act.put, List.setIfInBounds_toArray, List.set_cons_zero, List.set_cons_succ]; go_big_quiet_on)
        first | go_big_quiet_skip | (go_big_quiet_want; go_big_quiet_op; first | go_big_quiet_on | (refine ⟨_, fun _ _ => rfl, ?_⟩; go_big_quiet_on))
        go_big_quiet_want; go_big_quiet_op; first | go_big_quiet_on | (refine ⟨_, fun _ _ => rfl, ?_⟩; go_big_quiet_on)
        refine wpQuiet_nil ?_
        intro X hX
        go_wp2_with fail
        go_ret
        exact ⟨by rw [hv.out]; rfl, HB1.out.trans ((hb2.trans (hX.mono hb2.size)).mono HB1.out.size)⟩
    · have hv := Lib.hid (HVy2.out (fun i hi => HA.out i (by have := HM.out; omega)))
      go_wp2_with fail
      go_ret
      exact ⟨by rw [hv.out]; rfl, HB1.out.trans (hb.mono HB1.out.size)⟩
end Go.Proofs.Ytdhmcepnmbchkaa
