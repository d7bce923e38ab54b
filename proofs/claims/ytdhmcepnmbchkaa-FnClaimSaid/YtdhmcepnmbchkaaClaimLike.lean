/- The laws' own likeness of Claims, as their promises ask it. Nothing that was there is written. -/
import Derived.Test.YtdhmcepnmbchkaaClaimTo
import Derived.Test.YtdhmcepnmbchkaaClaimNext
namespace Go.Proofs.Ytdhmcepnmbchkaa
open Go.RowKit
set_option linter.unusedVariables false

set_option maxHeartbeats 2000000 in
theorem lwNums_same (a a' : Option Addr) (cap cap' : Nat) (l : List Int) (w : World) (h : NumsIn w a l) (h' : NumsIn w a' l) (hlen : l.length ≤ 1048576) :
    Calls Try.prog 112 #[.slice a l.length cap, .slice a' l.length cap'] w fun e w' => e = .returned (.bool true) ∧ Below w.heap.size w w' := by
  obtain ⟨N, hN⟩ : ∃ N, l.length = N := ⟨_, rfl⟩
  have HN := Lib.hid hN
  rcases Nat.eq_zero_or_pos N with hN0 | hN0
  · rw [hN]
    subst hN0
    clear hN hlen h h'
    go_enter Try.func112, Try.ntmps112
    go_wp2
    refine wp_loop_rounds 1 ?_
    rw [rounds_succ]; go_wp2
    go_ret
    exact ⟨rfl, Below.refl _ _⟩
  obtain ⟨b, o, rfl, hlt, hc⟩ := h.at (by omega)
  obtain ⟨b', o', rfl, hlt', hc'⟩ := h'.at (by omega)
  have HI := Lib.hid hc
  have HI' := Lib.hid hc'
  clear hc hc' h h'
  rw [hN] at hlen ⊢
  clear hN
  go_enter Try.func112, Try.ntmps112
  go_wp2
  go_loopw [5] (fun i wr => ∃ k : Nat, i = .int .i64 (k : Int) ∧ k ≤ N ∧ Below w.heap.size w wr) (fun i _ => N - (intOf i).toNat)
  case atStart => exact ⟨0, rfl, by omega, Below.refl _ _⟩
  case round =>
    obtain ⟨k, rfl, hk, hb⟩ := hrel
    by_cases hkn : k < N
    · have hkl : k < l.length := by have := HN.out; omega
      have d0 := (hb.cell (p := ⟨b, _, none⟩) hlt).trans (HI.out k _ (numAt_some hkl))
      have d1 := (hb.cell (p := ⟨b', _, none⟩) hlt').trans (HI'.out k _ (numAt_some hkl))
      have hi1 : (0 : Int) ≤ (k : Int) := by omega
      have hi2 : (k : Int) < (N : Int) := by omega
      generalize numAt l k = x at *
      go_wp2_with fail
      go_quiet (fail)
      go_wp2
      go_roundw
      case rel => exact ⟨k + 1, by go_num, by omega, ⟨hb.os, hb.tape, hb.output, hb.size, hb.block⟩⟩
      case measure => simp [intOf]; omega
    · go_wp2
      go_ret
      exact ⟨rfl, hb⟩
set_option maxRecDepth 100000 in
set_option maxHeartbeats 4000000 in
theorem lwClaim_same (n : Nm) (ad st lf : Int) (a a' : Option Addr) (cap cap' : Nat) (l : List Int) (w : World) (h : NumsIn w a l) (h' : NumsIn w a' l) (hlen : l.length ≤ 1048576) :
    Calls Try.prog 62 #[clV n ad st lf (.slice a l.length cap), clV n ad st lf (.slice a' l.length cap')] w fun e w' => e = .returned (.bool true) ∧ Below w.heap.size w w' := by
  have HE := fun W hW hW' => Lib.hid (lwNums_same a a' cap cap' l W hW hW' hlen)
  have HI := Lib.hid h
  have HJ := Lib.hid h'
  clear h h' hlen
  obtain ⟨n0, n1, n2, n3, n4, n5, n6, n7⟩ := n
  have HS := Lib.hid (show true = decide (n0 = n0 ∧ n1 = n1 ∧ n2 = n2 ∧ n3 = n3 ∧ n4 = n4 ∧ n5 = n5 ∧ n6 = n6 ∧ n7 = n7) by simp)
  have e1 : (ad == ad) = true := by simp
  have e2 : (st == st) = true := by simp
  have e3 : (lf == lf) = true := by simp
  unfold clV
  dsimp only at *
  go_enter Try.func62, Try.ntmps62
  go_wp2_with (first
    | (refine wpList_box_h rfl 27 (.tmp 0) rfl #[.int .i64 n0, .int .i64 n1, .int .i64 n2, .int .i64 n3, .int .i64 n4, .int .i64 n5, .int .i64 n6, .bool n7, .int .i64 ad, .int .i64 st, .int .i64 lf, .slice a l.length cap] rfl ?_; intro w1 R1 e1 g1 b1; have HL1 := Lib.hid (show Lv w w1 [(R1, #[.int .i64 n0, .int .i64 n1, .int .i64 n2, .int .i64 n3, .int .i64 n4, .int .i64 n5, .int .i64 n6, .bool n7, .int .i64 ad, .int .i64 st, .int .i64 lf, .slice a l.length cap], 27)] [] from (Lv.first w).box e1 g1 b1); clear g1 b1 e1)
    | (refine wpList_box_h rfl 27 (.tmp 1) rfl #[.int .i64 n0, .int .i64 n1, .int .i64 n2, .int .i64 n3, .int .i64 n4, .int .i64 n5, .int .i64 n6, .bool n7, .int .i64 ad, .int .i64 st, .int .i64 lf, .slice a' l.length cap'] rfl ?_; intro w2 R2 e2 g2 b2; have qR2_R1 : R1 < R2 := Nat.lt_of_lt_of_eq (HL1.out.lt (.head _)) e2; have HL2 := Lib.hid (show Lv w w2 [(R2, #[.int .i64 n0, .int .i64 n1, .int .i64 n2, .int .i64 n3, .int .i64 n4, .int .i64 n5, .int .i64 n6, .bool n7, .int .i64 ad, .int .i64 st, .int .i64 lf, .slice a' l.length cap'], 27), (R1, #[.int .i64 n0, .int .i64 n1, .int .i64 n2, .int .i64 n3, .int .i64 n4, .int .i64 n5, .int .i64 n6, .bool n7, .int .i64 ad, .int .i64 st, .int .i64 lf, .slice a l.length cap], 27)] [] from HL1.out.box e2 g2 b2); clear g2 b2 e2)
    | (refine wpList_load_at rfl 24 (.tmp 5) rfl (R1) 0 rfl 27 #[.int .i64 n0, .int .i64 n1, .int .i64 n2, .int .i64 n3, .int .i64 n4, .int .i64 n5, .int .i64 n6, .bool n7, .int .i64 ad, .int .i64 st, .int .i64 lf, .slice a l.length cap] (0, 0) (HL2.out.get (.tail _ (.head _))) [.int .i64 n0, .int .i64 n1, .int .i64 n2, .int .i64 n3, .int .i64 n4, .int .i64 n5, .int .i64 n6, .bool n7] rfl _ Try.underlying24 rfl (by kernel_rfl) ?_)
    | (refine wpList_load_at rfl 24 (.tmp 7) rfl (R2) 0 rfl 27 #[.int .i64 n0, .int .i64 n1, .int .i64 n2, .int .i64 n3, .int .i64 n4, .int .i64 n5, .int .i64 n6, .bool n7, .int .i64 ad, .int .i64 st, .int .i64 lf, .slice a' l.length cap'] (0, 0) (HL2.out.get (.head _)) [.int .i64 n0, .int .i64 n1, .int .i64 n2, .int .i64 n3, .int .i64 n4, .int .i64 n5, .int .i64 n6, .bool n7] rfl _ Try.underlying24 rfl (by kernel_rfl) ?_)
    | (refine wpList_eql_nm rfl (.tmp 6) (.tmp 8) _ rfl n0 n1 n2 n3 n4 n5 n6 n0 n1 n2 n3 n4 n5 n6 n7 n7 rfl rfl true HS.out ?_)
    | (refine wpList_load_one rfl 2 (.tmp 11) rfl (R1) 8 rfl 27 #[.int .i64 n0, .int .i64 n1, .int .i64 n2, .int .i64 n3, .int .i64 n4, .int .i64 n5, .int .i64 n6, .bool n7, .int .i64 ad, .int .i64 st, .int .i64 lf, .slice a l.length cap] (0, 0) (HL2.out.get (.tail _ (.head _))) (.int .i64 ad) rfl _ Try.underlying2 rfl (by kernel_rfl) ?_)
    | (refine wpList_load_one rfl 2 (.tmp 13) rfl (R2) 8 rfl 27 #[.int .i64 n0, .int .i64 n1, .int .i64 n2, .int .i64 n3, .int .i64 n4, .int .i64 n5, .int .i64 n6, .bool n7, .int .i64 ad, .int .i64 st, .int .i64 lf, .slice a' l.length cap'] (0, 0) (HL2.out.get (.head _)) (.int .i64 ad) rfl _ Try.underlying2 rfl (by kernel_rfl) ?_)
    | (refine wpList_load_one rfl 2 (.tmp 18) rfl (R1) 9 rfl 27 #[.int .i64 n0, .int .i64 n1, .int .i64 n2, .int .i64 n3, .int .i64 n4, .int .i64 n5, .int .i64 n6, .bool n7, .int .i64 ad, .int .i64 st, .int .i64 lf, .slice a l.length cap] (0, 0) (HL2.out.get (.tail _ (.head _))) (.int .i64 st) rfl _ Try.underlying2 rfl (by kernel_rfl) ?_)
    | (refine wpList_load_one rfl 2 (.tmp 20) rfl (R2) 9 rfl 27 #[.int .i64 n0, .int .i64 n1, .int .i64 n2, .int .i64 n3, .int .i64 n4, .int .i64 n5, .int .i64 n6, .bool n7, .int .i64 ad, .int .i64 st, .int .i64 lf, .slice a' l.length cap'] (0, 0) (HL2.out.get (.head _)) (.int .i64 st) rfl _ Try.underlying2 rfl (by kernel_rfl) ?_)
    | (refine wpList_load_one rfl 2 (.tmp 25) rfl (R1) 10 rfl 27 #[.int .i64 n0, .int .i64 n1, .int .i64 n2, .int .i64 n3, .int .i64 n4, .int .i64 n5, .int .i64 n6, .bool n7, .int .i64 ad, .int .i64 st, .int .i64 lf, .slice a l.length cap] (0, 0) (HL2.out.get (.tail _ (.head _))) (.int .i64 lf) rfl _ Try.underlying2 rfl (by kernel_rfl) ?_)
    | (refine wpList_load_one rfl 2 (.tmp 27) rfl (R2) 10 rfl 27 #[.int .i64 n0, .int .i64 n1, .int .i64 n2, .int .i64 n3, .int .i64 n4, .int .i64 n5, .int .i64 n6, .bool n7, .int .i64 ad, .int .i64 st, .int .i64 lf, .slice a' l.length cap'] (0, 0) (HL2.out.get (.head _)) (.int .i64 lf) rfl _ Try.underlying2 rfl (by kernel_rfl) ?_)
    | (refine wpList_load_one rfl 25 (.tmp 32) rfl (R1) 11 rfl 27 #[.int .i64 n0, .int .i64 n1, .int .i64 n2, .int .i64 n3, .int .i64 n4, .int .i64 n5, .int .i64 n6, .bool n7, .int .i64 ad, .int .i64 st, .int .i64 lf, .slice a l.length cap] (0, 0) (HL2.out.get (.tail _ (.head _))) (.slice a l.length cap) rfl _ Try.underlying25 rfl (by kernel_rfl) ?_)
    | (refine wpList_load_one rfl 25 (.tmp 34) rfl (R2) 11 rfl 27 #[.int .i64 n0, .int .i64 n1, .int .i64 n2, .int .i64 n3, .int .i64 n4, .int .i64 n5, .int .i64 n6, .bool n7, .int .i64 ad, .int .i64 st, .int .i64 lf, .slice a' l.length cap'] (0, 0) (HL2.out.get (.head _)) (.slice a' l.length cap') rfl _ Try.underlying25 rfl (by kernel_rfl) ?_))
  refine ((HE _ (HI.out.kept HL2.out.below) (HJ.out.kept HL2.out.below)).out).mono ?_
  rintro e w3 ⟨rfl, h⟩
  have HL3 := Lib.hid (show Lv w w3 [(R2, #[.int .i64 n0, .int .i64 n1, .int .i64 n2, .int .i64 n3, .int .i64 n4, .int .i64 n5, .int .i64 n6, .bool n7, .int .i64 ad, .int .i64 st, .int .i64 lf, .slice a' l.length cap'], 27), (R1, #[.int .i64 n0, .int .i64 n1, .int .i64 n2, .int .i64 n3, .int .i64 n4, .int .i64 n5, .int .i64 n6, .bool n7, .int .i64 ad, .int .i64 st, .int .i64 lf, .slice a l.length cap], 27)] [] from HL2.out.kept h)
  clear h
  go_wp2_with fail
  go_ret
  exact ⟨rfl, HL3.out.below⟩
set_option maxRecDepth 100000 in
set_option maxHeartbeats 4000000 in
theorem lwClaims_same (n : Nm) (ad st lf : Int) (a a' : Option Addr) (cap cap' : Nat) (l : List Int) (s : Bool) (c : Int) (w : World) (h : NumsIn w a l) (h' : NumsIn w a' l) (hlen : l.length ≤ 1048576) (hr : c = 0 → clB ⟨n, ad, st, lf, l⟩ = true) :
    Calls Try.prog 16 #[clOutV n ad st lf (.slice a l.length cap) s c, clOutV n ad st lf (.slice a' l.length cap') s c] w fun e w' => e = .returned (.bool true) ∧ Below w.heap.size w w' := by
  have HE := fun W hW hW' => Lib.hid (lwClaim_same n ad st lf a a' cap cap' l W hW hW' hlen)
  have HR := fun W hW => Lib.hid (specClaimRight_any n ad st lf a cap l W hW hlen)
  have HI := Lib.hid h
  have HJ := Lib.hid h'
  clear h h' hlen
  have e1 : (c == c) = true := by simp
  have e2 : (s == s) = true := by simp
  by_cases hc : c = 0
  · rw [hr hc] at HR
    have e3 : (c != 0) = false := by simpa using hc
    clear hr hc
    obtain ⟨n0, n1, n2, n3, n4, n5, n6, n7⟩ := n
    unfold clOutV
    unfold clV at *
    dsimp only at *
    go_enter Try.func16, Try.ntmps16
    go_wp2_with (first
      | (refine wpList_box_h rfl 31 (.tmp 0) rfl #[.int .i64 n0, .int .i64 n1, .int .i64 n2, .int .i64 n3, .int .i64 n4, .int .i64 n5, .int .i64 n6, .bool n7, .int .i64 ad, .int .i64 st, .int .i64 lf, .slice a l.length cap, .bool s, .int .i64 c] rfl ?_; intro w1 R1 e1 g1 b1; have HL1 := Lib.hid (show Lv w w1 [(R1, #[.int .i64 n0, .int .i64 n1, .int .i64 n2, .int .i64 n3, .int .i64 n4, .int .i64 n5, .int .i64 n6, .bool n7, .int .i64 ad, .int .i64 st, .int .i64 lf, .slice a l.length cap, .bool s, .int .i64 c], 31)] [] from (Lv.first w).box e1 g1 b1); clear g1 b1 e1)
      | (refine wpList_box_h rfl 31 (.tmp 1) rfl #[.int .i64 n0, .int .i64 n1, .int .i64 n2, .int .i64 n3, .int .i64 n4, .int .i64 n5, .int .i64 n6, .bool n7, .int .i64 ad, .int .i64 st, .int .i64 lf, .slice a' l.length cap', .bool s, .int .i64 c] rfl ?_; intro w2 R2 e2 g2 b2; have qR2_R1 : R1 < R2 := Nat.lt_of_lt_of_eq (HL1.out.lt (.head _)) e2; have HL2 := Lib.hid (show Lv w w2 [(R2, #[.int .i64 n0, .int .i64 n1, .int .i64 n2, .int .i64 n3, .int .i64 n4, .int .i64 n5, .int .i64 n6, .bool n7, .int .i64 ad, .int .i64 st, .int .i64 lf, .slice a' l.length cap', .bool s, .int .i64 c], 31), (R1, #[.int .i64 n0, .int .i64 n1, .int .i64 n2, .int .i64 n3, .int .i64 n4, .int .i64 n5, .int .i64 n6, .bool n7, .int .i64 ad, .int .i64 st, .int .i64 lf, .slice a l.length cap, .bool s, .int .i64 c], 31)] [] from HL1.out.box e2 g2 b2); clear g2 b2 e2)
      | (refine wpList_load_one rfl 2 (.tmp 5) rfl (R1) 13 rfl 31 #[.int .i64 n0, .int .i64 n1, .int .i64 n2, .int .i64 n3, .int .i64 n4, .int .i64 n5, .int .i64 n6, .bool n7, .int .i64 ad, .int .i64 st, .int .i64 lf, .slice a l.length cap, .bool s, .int .i64 c] (0, 0) (HL2.out.get (.tail _ (.head _))) (.int .i64 c) rfl _ Try.underlying2 rfl (by kernel_rfl) ?_)
      | (refine wpList_load_one rfl 2 (.tmp 7) rfl (R2) 13 rfl 31 #[.int .i64 n0, .int .i64 n1, .int .i64 n2, .int .i64 n3, .int .i64 n4, .int .i64 n5, .int .i64 n6, .bool n7, .int .i64 ad, .int .i64 st, .int .i64 lf, .slice a' l.length cap', .bool s, .int .i64 c] (0, 0) (HL2.out.get (.head _)) (.int .i64 c) rfl _ Try.underlying2 rfl (by kernel_rfl) ?_)
      | (refine wpList_load_one rfl 4 (.tmp 11) rfl (R1) 12 rfl 31 #[.int .i64 n0, .int .i64 n1, .int .i64 n2, .int .i64 n3, .int .i64 n4, .int .i64 n5, .int .i64 n6, .bool n7, .int .i64 ad, .int .i64 st, .int .i64 lf, .slice a l.length cap, .bool s, .int .i64 c] (0, 0) (HL2.out.get (.tail _ (.head _))) (.bool s) rfl _ Try.underlying4 rfl (by kernel_rfl) ?_)
      | (refine wpList_load_one rfl 4 (.tmp 13) rfl (R2) 12 rfl 31 #[.int .i64 n0, .int .i64 n1, .int .i64 n2, .int .i64 n3, .int .i64 n4, .int .i64 n5, .int .i64 n6, .bool n7, .int .i64 ad, .int .i64 st, .int .i64 lf, .slice a' l.length cap', .bool s, .int .i64 c] (0, 0) (HL2.out.get (.head _)) (.bool s) rfl _ Try.underlying4 rfl (by kernel_rfl) ?_)
      | (refine wpList_load_at rfl 27 (.tmp 18) rfl (R1) 0 rfl 31 #[.int .i64 n0, .int .i64 n1, .int .i64 n2, .int .i64 n3, .int .i64 n4, .int .i64 n5, .int .i64 n6, .bool n7, .int .i64 ad, .int .i64 st, .int .i64 lf, .slice a l.length cap, .bool s, .int .i64 c] (0, 0) (HL2.out.get (.tail _ (.head _))) [.int .i64 n0, .int .i64 n1, .int .i64 n2, .int .i64 n3, .int .i64 n4, .int .i64 n5, .int .i64 n6, .bool n7, .int .i64 ad, .int .i64 st, .int .i64 lf, .slice a l.length cap] rfl _ Try.underlying27 rfl (by kernel_rfl) ?_)
      | (refine wpList_load_at rfl 27 (.tmp 20) rfl (R2) 0 rfl 31 #[.int .i64 n0, .int .i64 n1, .int .i64 n2, .int .i64 n3, .int .i64 n4, .int .i64 n5, .int .i64 n6, .bool n7, .int .i64 ad, .int .i64 st, .int .i64 lf, .slice a' l.length cap', .bool s, .int .i64 c] (0, 0) (HL2.out.get (.head _)) [.int .i64 n0, .int .i64 n1, .int .i64 n2, .int .i64 n3, .int .i64 n4, .int .i64 n5, .int .i64 n6, .bool n7, .int .i64 ad, .int .i64 st, .int .i64 lf, .slice a' l.length cap'] rfl _ Try.underlying27 rfl (by kernel_rfl) ?_))
    refine ((HE _ (HI.out.kept HL2.out.below) (HJ.out.kept HL2.out.below)).out).mono ?_
    rintro e w3 ⟨rfl, h⟩
    have HL3 := Lib.hid (show Lv w w3 [(R2, #[.int .i64 n0, .int .i64 n1, .int .i64 n2, .int .i64 n3, .int .i64 n4, .int .i64 n5, .int .i64 n6, .bool n7, .int .i64 ad, .int .i64 st, .int .i64 lf, .slice a' l.length cap', .bool s, .int .i64 c], 31), (R1, #[.int .i64 n0, .int .i64 n1, .int .i64 n2, .int .i64 n3, .int .i64 n4, .int .i64 n5, .int .i64 n6, .bool n7, .int .i64 ad, .int .i64 st, .int .i64 lf, .slice a l.length cap, .bool s, .int .i64 c], 31)] [] from HL2.out.kept h)
    clear h
    go_wp2_with (first
      | (refine wpList_load_one rfl 2 (.tmp 25) rfl (R1) 13 rfl 31 #[.int .i64 n0, .int .i64 n1, .int .i64 n2, .int .i64 n3, .int .i64 n4, .int .i64 n5, .int .i64 n6, .bool n7, .int .i64 ad, .int .i64 st, .int .i64 lf, .slice a l.length cap, .bool s, .int .i64 c] (0, 0) (HL3.out.get (.tail _ (.head _))) (.int .i64 c) rfl _ Try.underlying2 rfl (by kernel_rfl) ?_)
      | (refine wpList_load_at rfl 27 (.tmp 29) rfl (R1) 0 rfl 31 #[.int .i64 n0, .int .i64 n1, .int .i64 n2, .int .i64 n3, .int .i64 n4, .int .i64 n5, .int .i64 n6, .bool n7, .int .i64 ad, .int .i64 st, .int .i64 lf, .slice a l.length cap, .bool s, .int .i64 c] (0, 0) (HL3.out.get (.tail _ (.head _))) [.int .i64 n0, .int .i64 n1, .int .i64 n2, .int .i64 n3, .int .i64 n4, .int .i64 n5, .int .i64 n6, .bool n7, .int .i64 ad, .int .i64 st, .int .i64 lf, .slice a l.length cap] rfl _ Try.underlying27 rfl (by kernel_rfl) ?_))
    refine ((HR _ (HI.out.kept HL3.out.below)).out).mono ?_
    rintro e w4 ⟨rfl, h⟩
    have HL4 := Lib.hid (show Lv w w4 [(R2, #[.int .i64 n0, .int .i64 n1, .int .i64 n2, .int .i64 n3, .int .i64 n4, .int .i64 n5, .int .i64 n6, .bool n7, .int .i64 ad, .int .i64 st, .int .i64 lf, .slice a' l.length cap', .bool s, .int .i64 c], 31), (R1, #[.int .i64 n0, .int .i64 n1, .int .i64 n2, .int .i64 n3, .int .i64 n4, .int .i64 n5, .int .i64 n6, .bool n7, .int .i64 ad, .int .i64 st, .int .i64 lf, .slice a l.length cap, .bool s, .int .i64 c], 31)] [] from HL3.out.kept h)
    clear h
    go_wp2_with fail
    go_ret
    exact ⟨rfl, HL4.out.below⟩
  · have e3 : (c != 0) = true := by simpa using hc
    clear hr hc HR
    obtain ⟨n0, n1, n2, n3, n4, n5, n6, n7⟩ := n
    unfold clOutV
    unfold clV at *
    dsimp only at *
    go_enter Try.func16, Try.ntmps16
    go_wp2_with (first
      | (refine wpList_box_h rfl 31 (.tmp 0) rfl #[.int .i64 n0, .int .i64 n1, .int .i64 n2, .int .i64 n3, .int .i64 n4, .int .i64 n5, .int .i64 n6, .bool n7, .int .i64 ad, .int .i64 st, .int .i64 lf, .slice a l.length cap, .bool s, .int .i64 c] rfl ?_; intro w1 R1 e1 g1 b1; have HL1 := Lib.hid (show Lv w w1 [(R1, #[.int .i64 n0, .int .i64 n1, .int .i64 n2, .int .i64 n3, .int .i64 n4, .int .i64 n5, .int .i64 n6, .bool n7, .int .i64 ad, .int .i64 st, .int .i64 lf, .slice a l.length cap, .bool s, .int .i64 c], 31)] [] from (Lv.first w).box e1 g1 b1); clear g1 b1 e1)
      | (refine wpList_box_h rfl 31 (.tmp 1) rfl #[.int .i64 n0, .int .i64 n1, .int .i64 n2, .int .i64 n3, .int .i64 n4, .int .i64 n5, .int .i64 n6, .bool n7, .int .i64 ad, .int .i64 st, .int .i64 lf, .slice a' l.length cap', .bool s, .int .i64 c] rfl ?_; intro w2 R2 e2 g2 b2; have qR2_R1 : R1 < R2 := Nat.lt_of_lt_of_eq (HL1.out.lt (.head _)) e2; have HL2 := Lib.hid (show Lv w w2 [(R2, #[.int .i64 n0, .int .i64 n1, .int .i64 n2, .int .i64 n3, .int .i64 n4, .int .i64 n5, .int .i64 n6, .bool n7, .int .i64 ad, .int .i64 st, .int .i64 lf, .slice a' l.length cap', .bool s, .int .i64 c], 31), (R1, #[.int .i64 n0, .int .i64 n1, .int .i64 n2, .int .i64 n3, .int .i64 n4, .int .i64 n5, .int .i64 n6, .bool n7, .int .i64 ad, .int .i64 st, .int .i64 lf, .slice a l.length cap, .bool s, .int .i64 c], 31)] [] from HL1.out.box e2 g2 b2); clear g2 b2 e2)
      | (refine wpList_load_one rfl 2 (.tmp 5) rfl (R1) 13 rfl 31 #[.int .i64 n0, .int .i64 n1, .int .i64 n2, .int .i64 n3, .int .i64 n4, .int .i64 n5, .int .i64 n6, .bool n7, .int .i64 ad, .int .i64 st, .int .i64 lf, .slice a l.length cap, .bool s, .int .i64 c] (0, 0) (HL2.out.get (.tail _ (.head _))) (.int .i64 c) rfl _ Try.underlying2 rfl (by kernel_rfl) ?_)
      | (refine wpList_load_one rfl 2 (.tmp 7) rfl (R2) 13 rfl 31 #[.int .i64 n0, .int .i64 n1, .int .i64 n2, .int .i64 n3, .int .i64 n4, .int .i64 n5, .int .i64 n6, .bool n7, .int .i64 ad, .int .i64 st, .int .i64 lf, .slice a' l.length cap', .bool s, .int .i64 c] (0, 0) (HL2.out.get (.head _)) (.int .i64 c) rfl _ Try.underlying2 rfl (by kernel_rfl) ?_)
      | (refine wpList_load_one rfl 4 (.tmp 11) rfl (R1) 12 rfl 31 #[.int .i64 n0, .int .i64 n1, .int .i64 n2, .int .i64 n3, .int .i64 n4, .int .i64 n5, .int .i64 n6, .bool n7, .int .i64 ad, .int .i64 st, .int .i64 lf, .slice a l.length cap, .bool s, .int .i64 c] (0, 0) (HL2.out.get (.tail _ (.head _))) (.bool s) rfl _ Try.underlying4 rfl (by kernel_rfl) ?_)
      | (refine wpList_load_one rfl 4 (.tmp 13) rfl (R2) 12 rfl 31 #[.int .i64 n0, .int .i64 n1, .int .i64 n2, .int .i64 n3, .int .i64 n4, .int .i64 n5, .int .i64 n6, .bool n7, .int .i64 ad, .int .i64 st, .int .i64 lf, .slice a' l.length cap', .bool s, .int .i64 c] (0, 0) (HL2.out.get (.head _)) (.bool s) rfl _ Try.underlying4 rfl (by kernel_rfl) ?_)
      | (refine wpList_load_at rfl 27 (.tmp 18) rfl (R1) 0 rfl 31 #[.int .i64 n0, .int .i64 n1, .int .i64 n2, .int .i64 n3, .int .i64 n4, .int .i64 n5, .int .i64 n6, .bool n7, .int .i64 ad, .int .i64 st, .int .i64 lf, .slice a l.length cap, .bool s, .int .i64 c] (0, 0) (HL2.out.get (.tail _ (.head _))) [.int .i64 n0, .int .i64 n1, .int .i64 n2, .int .i64 n3, .int .i64 n4, .int .i64 n5, .int .i64 n6, .bool n7, .int .i64 ad, .int .i64 st, .int .i64 lf, .slice a l.length cap] rfl _ Try.underlying27 rfl (by kernel_rfl) ?_)
      | (refine wpList_load_at rfl 27 (.tmp 20) rfl (R2) 0 rfl 31 #[.int .i64 n0, .int .i64 n1, .int .i64 n2, .int .i64 n3, .int .i64 n4, .int .i64 n5, .int .i64 n6, .bool n7, .int .i64 ad, .int .i64 st, .int .i64 lf, .slice a' l.length cap', .bool s, .int .i64 c] (0, 0) (HL2.out.get (.head _)) [.int .i64 n0, .int .i64 n1, .int .i64 n2, .int .i64 n3, .int .i64 n4, .int .i64 n5, .int .i64 n6, .bool n7, .int .i64 ad, .int .i64 st, .int .i64 lf, .slice a' l.length cap'] rfl _ Try.underlying27 rfl (by kernel_rfl) ?_))
    refine ((HE _ (HI.out.kept HL2.out.below) (HJ.out.kept HL2.out.below)).out).mono ?_
    rintro e w3 ⟨rfl, h⟩
    have HL3 := Lib.hid (show Lv w w3 [(R2, #[.int .i64 n0, .int .i64 n1, .int .i64 n2, .int .i64 n3, .int .i64 n4, .int .i64 n5, .int .i64 n6, .bool n7, .int .i64 ad, .int .i64 st, .int .i64 lf, .slice a' l.length cap', .bool s, .int .i64 c], 31), (R1, #[.int .i64 n0, .int .i64 n1, .int .i64 n2, .int .i64 n3, .int .i64 n4, .int .i64 n5, .int .i64 n6, .bool n7, .int .i64 ad, .int .i64 st, .int .i64 lf, .slice a l.length cap, .bool s, .int .i64 c], 31)] [] from HL2.out.kept h)
    clear h
    go_wp2_with (first
      | (refine wpList_load_one rfl 2 (.tmp 25) rfl (R1) 13 rfl 31 #[.int .i64 n0, .int .i64 n1, .int .i64 n2, .int .i64 n3, .int .i64 n4, .int .i64 n5, .int .i64 n6, .bool n7, .int .i64 ad, .int .i64 st, .int .i64 lf, .slice a l.length cap, .bool s, .int .i64 c] (0, 0) (HL3.out.get (.tail _ (.head _))) (.int .i64 c) rfl _ Try.underlying2 rfl (by kernel_rfl) ?_))
    go_ret
    exact ⟨rfl, HL3.out.below⟩
end Go.Proofs.Ytdhmcepnmbchkaa
