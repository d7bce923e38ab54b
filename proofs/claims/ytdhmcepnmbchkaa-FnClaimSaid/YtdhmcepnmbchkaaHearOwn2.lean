/- What is answered of what a Claim hears: the model's. Nothing that was there is written. -/
import Derived.Test.YtdhmcepnmbchkaaHearOwn
namespace Go.Proofs.Ytdhmcepnmbchkaa
open Go.RowKit
set_option linter.unusedVariables false

set_option maxRecDepth 100000 in
set_option maxHeartbeats 8000000 in
theorem specClaimHear_own (n m : Nm) (ad st lf s : Int) (a : Option Addr) (cap : Nat) (l : List Int) (w : World) (h : NumsIn w a l) (hlen : l.length ≤ 1048576) :
    Calls Try.prog 17 #[clV n ad st lf (.slice a l.length cap), .int .i64 s, nmV m] w (ClOwn w (hearO ⟨n, ad, st, lf, l⟩ s m).1 (hearO ⟨n, ad, st, lf, l⟩ s m).2.1 (hearO ⟨n, ad, st, lf, l⟩ s m).2.2) := by
  have HC := fun W hW => Lib.hid (specClaimRight_any n ad st lf a cap l W hW hlen)
  have HN := fun W => Lib.hid (specNameOk_any m W)
  have HA := fun W => Lib.hid (l02Is_any s 0 255 W)
  have HI := Lib.hid h
  clear h
  rcases hc : clB ⟨n, ad, st, lf, l⟩
  · rw [show hearO ⟨n, ad, st, lf, l⟩ s m = (zeroCl, false, 1) by unfold hearO; rw [if_neg (by simp [hc])]]
    unfold ClOwn zeroCl
    rw [hc] at HC
    clear hc hlen HN HA
    obtain ⟨n0, n1, n2, n3, n4, n5, n6, n7⟩ := n
    obtain ⟨m0, m1, m2, m3, m4, m5, m6, m7⟩ := m
    unfold clOutV
    unfold clV at *
    unfold nmV at *
    dsimp only at *
    go_enter Try.func17, Try.ntmps17
    go_wp2_with (first
      | (refine wpList_box_h rfl 27 (.tmp 0) rfl #[.int .i64 n0, .int .i64 n1, .int .i64 n2, .int .i64 n3, .int .i64 n4, .int .i64 n5, .int .i64 n6, .bool n7, .int .i64 ad, .int .i64 st, .int .i64 lf, .slice a l.length cap] rfl ?_; intro w1 R1 e1 g1 b1; have HL1 := Lib.hid (show Lv w w1 [(R1, #[.int .i64 n0, .int .i64 n1, .int .i64 n2, .int .i64 n3, .int .i64 n4, .int .i64 n5, .int .i64 n6, .bool n7, .int .i64 ad, .int .i64 st, .int .i64 lf, .slice a l.length cap], 27)] [] from (Lv.first w).box e1 g1 b1); clear g1 b1 e1)
      | (refine wpList_box_h rfl 24 (.tmp 2) rfl #[.int .i64 m0, .int .i64 m1, .int .i64 m2, .int .i64 m3, .int .i64 m4, .int .i64 m5, .int .i64 m6, .bool m7] rfl ?_; intro w2 R2 e2 g2 b2; have qR2_R1 : R1 < R2 := Nat.lt_of_lt_of_eq (HL1.out.lt (.head _)) e2; have HL2 := Lib.hid (show Lv w w2 [(R2, #[.int .i64 m0, .int .i64 m1, .int .i64 m2, .int .i64 m3, .int .i64 m4, .int .i64 m5, .int .i64 m6, .bool m7], 24), (R1, #[.int .i64 n0, .int .i64 n1, .int .i64 n2, .int .i64 n3, .int .i64 n4, .int .i64 n5, .int .i64 n6, .bool n7, .int .i64 ad, .int .i64 st, .int .i64 lf, .slice a l.length cap], 27)] [] from HL1.out.box e2 g2 b2); clear g2 b2 e2)
      | (refine wpList_alloc_h rfl 31 rfl (.agg #[.int .i64 0, .int .i64 0, .int .i64 0, .int .i64 0, .int .i64 0, .int .i64 0, .int .i64 0, .bool false, .int .i64 0, .int .i64 0, .int .i64 0, .slice none 0 0, .bool false, .int .i64 0]) (by kernel_rfl) #[.int .i64 0, .int .i64 0, .int .i64 0, .int .i64 0, .int .i64 0, .int .i64 0, .int .i64 0, .bool false, .int .i64 0, .int .i64 0, .int .i64 0, .slice none 0 0, .bool false, .int .i64 0] rfl ?_; intro w3 R3 e3 g3 b3; have qR3_R2 : R2 < R3 := Nat.lt_of_lt_of_eq (HL2.out.lt (.head _)) e3; have qR3_R1 : R1 < R3 := Nat.lt_of_lt_of_eq (HL2.out.lt (.tail _ (.head _))) e3; have HL3 := Lib.hid (show Lv w w3 [(R3, #[.int .i64 0, .int .i64 0, .int .i64 0, .int .i64 0, .int .i64 0, .int .i64 0, .int .i64 0, .bool false, .int .i64 0, .int .i64 0, .int .i64 0, .slice none 0 0, .bool false, .int .i64 0], 31), (R2, #[.int .i64 m0, .int .i64 m1, .int .i64 m2, .int .i64 m3, .int .i64 m4, .int .i64 m5, .int .i64 m6, .bool m7], 24), (R1, #[.int .i64 n0, .int .i64 n1, .int .i64 n2, .int .i64 n3, .int .i64 n4, .int .i64 n5, .int .i64 n6, .bool n7, .int .i64 ad, .int .i64 st, .int .i64 lf, .slice a l.length cap], 27)] [] from HL2.out.box e3 g3 b3); clear g3 b3 e3)
      | (refine wpList_load_at rfl 27 (.tmp 3) rfl (R1) 0 rfl 27 #[.int .i64 n0, .int .i64 n1, .int .i64 n2, .int .i64 n3, .int .i64 n4, .int .i64 n5, .int .i64 n6, .bool n7, .int .i64 ad, .int .i64 st, .int .i64 lf, .slice a l.length cap] (0, 0) (HL3.out.get (.tail _ (.tail _ (.head _)))) [.int .i64 n0, .int .i64 n1, .int .i64 n2, .int .i64 n3, .int .i64 n4, .int .i64 n5, .int .i64 n6, .bool n7, .int .i64 ad, .int .i64 st, .int .i64 lf, .slice a l.length cap] rfl _ Try.underlying27 rfl (by kernel_rfl) ?_))
    refine ((HC _ (HI.out.kept HL3.out.below)).out).mono ?_
    rintro e w4 ⟨rfl, h⟩
    have HL4 := Lib.hid (show Lv w w4 [(R3, #[.int .i64 0, .int .i64 0, .int .i64 0, .int .i64 0, .int .i64 0, .int .i64 0, .int .i64 0, .bool false, .int .i64 0, .int .i64 0, .int .i64 0, .slice none 0 0, .bool false, .int .i64 0], 31), (R2, #[.int .i64 m0, .int .i64 m1, .int .i64 m2, .int .i64 m3, .int .i64 m4, .int .i64 m5, .int .i64 m6, .bool m7], 24), (R1, #[.int .i64 n0, .int .i64 n1, .int .i64 n2, .int .i64 n3, .int .i64 n4, .int .i64 n5, .int .i64 n6, .bool n7, .int .i64 ad, .int .i64 st, .int .i64 lf, .slice a l.length cap], 27)] [] from HL3.out.kept h)
    clear h
    go_wp2_with (first
      | (refine wpList_put_at rfl 31 (.tmp 6) (.tmp 20) rfl rfl (R3) 0 rfl (.agg #[.int .i64 0, .int .i64 0, .int .i64 0, .int .i64 0, .int .i64 0, .int .i64 0, .int .i64 0, .bool false, .int .i64 0, .int .i64 0, .int .i64 0, .slice none 0 0, .bool false, .int .i64 1]) rfl #[.int .i64 0, .int .i64 0, .int .i64 0, .int .i64 0, .int .i64 0, .int .i64 0, .int .i64 0, .bool false, .int .i64 0, .int .i64 0, .int .i64 0, .slice none 0 0, .bool false, .int .i64 1] rfl 31 #[.int .i64 0, .int .i64 0, .int .i64 0, .int .i64 0, .int .i64 0, .int .i64 0, .int .i64 0, .bool false, .int .i64 0, .int .i64 0, .int .i64 0, .slice none 0 0, .bool false, .int .i64 0] #[.int .i64 0, .int .i64 0, .int .i64 0, .int .i64 0, .int .i64 0, .int .i64 0, .int .i64 0, .bool false, .int .i64 0, .int .i64 0, .int .i64 0, .slice none 0 0, .bool false, .int .i64 1] (HL4.out.get (.head _)) (by kernel_rfl) (by kernel_rfl) (by kernel_rfl) (by kernel_rfl) ?_; intro w5 g5 o5; have HL5 := Lib.hid (show Lv w w5 [(R3, #[.int .i64 0, .int .i64 0, .int .i64 0, .int .i64 0, .int .i64 0, .int .i64 0, .int .i64 0, .bool false, .int .i64 0, .int .i64 0, .int .i64 0, .slice none 0 0, .bool false, .int .i64 1], 31), (R2, #[.int .i64 m0, .int .i64 m1, .int .i64 m2, .int .i64 m3, .int .i64 m4, .int .i64 m5, .int .i64 m6, .bool m7], 24), (R1, #[.int .i64 n0, .int .i64 n1, .int .i64 n2, .int .i64 n3, .int .i64 n4, .int .i64 n5, .int .i64 n6, .bool n7, .int .i64 ad, .int .i64 st, .int .i64 lf, .slice a l.length cap], 27)] [] from HL4.out.put 0 rfl g5 o5 (List.forall_mem_cons.2 ⟨Nat.ne_of_lt qR3_R2, (List.forall_mem_cons.2 ⟨Nat.ne_of_lt qR3_R1, (fun _ h => nomatch h)⟩)⟩) (fun _ h => nomatch h) rfl); clear g5 o5))
    exact bodyPost_ret (results_cell_row (p := 6) (ty := 31) (by kernel_rfl) _ _ (R3) 31 _ (0, 0) _ rfl (HL5.out.get (.head _)) Try.underlying31 rfl (by kernel_rfl)) rfl ⟨none, 0, rfl, World.ownsRow_nil _ _ _ _, NumsNew.nil _, HL5.out.below⟩
  rcases hm : okB m
  · rw [show hearO ⟨n, ad, st, lf, l⟩ s m = (zeroCl, false, 1) by unfold hearO; rw [if_neg (by simp [hm])]]
    unfold ClOwn zeroCl
    rw [hc] at HC
    rw [hm] at HN
    clear hc hlen hm HA
    obtain ⟨n0, n1, n2, n3, n4, n5, n6, n7⟩ := n
    obtain ⟨m0, m1, m2, m3, m4, m5, m6, m7⟩ := m
    unfold clOutV
    unfold clV at *
    unfold nmV at *
    dsimp only at *
    go_enter Try.func17, Try.ntmps17
    go_wp2_with (first
      | (refine wpList_box_h rfl 27 (.tmp 0) rfl #[.int .i64 n0, .int .i64 n1, .int .i64 n2, .int .i64 n3, .int .i64 n4, .int .i64 n5, .int .i64 n6, .bool n7, .int .i64 ad, .int .i64 st, .int .i64 lf, .slice a l.length cap] rfl ?_; intro w1 R1 e1 g1 b1; have HL1 := Lib.hid (show Lv w w1 [(R1, #[.int .i64 n0, .int .i64 n1, .int .i64 n2, .int .i64 n3, .int .i64 n4, .int .i64 n5, .int .i64 n6, .bool n7, .int .i64 ad, .int .i64 st, .int .i64 lf, .slice a l.length cap], 27)] [] from (Lv.first w).box e1 g1 b1); clear g1 b1 e1)
      | (refine wpList_box_h rfl 24 (.tmp 2) rfl #[.int .i64 m0, .int .i64 m1, .int .i64 m2, .int .i64 m3, .int .i64 m4, .int .i64 m5, .int .i64 m6, .bool m7] rfl ?_; intro w2 R2 e2 g2 b2; have qR2_R1 : R1 < R2 := Nat.lt_of_lt_of_eq (HL1.out.lt (.head _)) e2; have HL2 := Lib.hid (show Lv w w2 [(R2, #[.int .i64 m0, .int .i64 m1, .int .i64 m2, .int .i64 m3, .int .i64 m4, .int .i64 m5, .int .i64 m6, .bool m7], 24), (R1, #[.int .i64 n0, .int .i64 n1, .int .i64 n2, .int .i64 n3, .int .i64 n4, .int .i64 n5, .int .i64 n6, .bool n7, .int .i64 ad, .int .i64 st, .int .i64 lf, .slice a l.length cap], 27)] [] from HL1.out.box e2 g2 b2); clear g2 b2 e2)
      | (refine wpList_alloc_h rfl 31 rfl (.agg #[.int .i64 0, .int .i64 0, .int .i64 0, .int .i64 0, .int .i64 0, .int .i64 0, .int .i64 0, .bool false, .int .i64 0, .int .i64 0, .int .i64 0, .slice none 0 0, .bool false, .int .i64 0]) (by kernel_rfl) #[.int .i64 0, .int .i64 0, .int .i64 0, .int .i64 0, .int .i64 0, .int .i64 0, .int .i64 0, .bool false, .int .i64 0, .int .i64 0, .int .i64 0, .slice none 0 0, .bool false, .int .i64 0] rfl ?_; intro w3 R3 e3 g3 b3; have qR3_R2 : R2 < R3 := Nat.lt_of_lt_of_eq (HL2.out.lt (.head _)) e3; have qR3_R1 : R1 < R3 := Nat.lt_of_lt_of_eq (HL2.out.lt (.tail _ (.head _))) e3; have HL3 := Lib.hid (show Lv w w3 [(R3, #[.int .i64 0, .int .i64 0, .int .i64 0, .int .i64 0, .int .i64 0, .int .i64 0, .int .i64 0, .bool false, .int .i64 0, .int .i64 0, .int .i64 0, .slice none 0 0, .bool false, .int .i64 0], 31), (R2, #[.int .i64 m0, .int .i64 m1, .int .i64 m2, .int .i64 m3, .int .i64 m4, .int .i64 m5, .int .i64 m6, .bool m7], 24), (R1, #[.int .i64 n0, .int .i64 n1, .int .i64 n2, .int .i64 n3, .int .i64 n4, .int .i64 n5, .int .i64 n6, .bool n7, .int .i64 ad, .int .i64 st, .int .i64 lf, .slice a l.length cap], 27)] [] from HL2.out.box e3 g3 b3); clear g3 b3 e3)
      | (refine wpList_load_at rfl 27 (.tmp 3) rfl (R1) 0 rfl 27 #[.int .i64 n0, .int .i64 n1, .int .i64 n2, .int .i64 n3, .int .i64 n4, .int .i64 n5, .int .i64 n6, .bool n7, .int .i64 ad, .int .i64 st, .int .i64 lf, .slice a l.length cap] (0, 0) (HL3.out.get (.tail _ (.tail _ (.head _)))) [.int .i64 n0, .int .i64 n1, .int .i64 n2, .int .i64 n3, .int .i64 n4, .int .i64 n5, .int .i64 n6, .bool n7, .int .i64 ad, .int .i64 st, .int .i64 lf, .slice a l.length cap] rfl _ Try.underlying27 rfl (by kernel_rfl) ?_))
    refine ((HC _ (HI.out.kept HL3.out.below)).out).mono ?_
    rintro e w4 ⟨rfl, h⟩
    have HL4 := Lib.hid (show Lv w w4 [(R3, #[.int .i64 0, .int .i64 0, .int .i64 0, .int .i64 0, .int .i64 0, .int .i64 0, .int .i64 0, .bool false, .int .i64 0, .int .i64 0, .int .i64 0, .slice none 0 0, .bool false, .int .i64 0], 31), (R2, #[.int .i64 m0, .int .i64 m1, .int .i64 m2, .int .i64 m3, .int .i64 m4, .int .i64 m5, .int .i64 m6, .bool m7], 24), (R1, #[.int .i64 n0, .int .i64 n1, .int .i64 n2, .int .i64 n3, .int .i64 n4, .int .i64 n5, .int .i64 n6, .bool n7, .int .i64 ad, .int .i64 st, .int .i64 lf, .slice a l.length cap], 27)] [] from HL3.out.kept h)
    clear h
    go_wp2_with (first
      | (refine wpList_load_at rfl 24 (.tmp 5) rfl (R2) 0 rfl 24 #[.int .i64 m0, .int .i64 m1, .int .i64 m2, .int .i64 m3, .int .i64 m4, .int .i64 m5, .int .i64 m6, .bool m7] (0, 0) (HL4.out.get (.tail _ (.head _))) [.int .i64 m0, .int .i64 m1, .int .i64 m2, .int .i64 m3, .int .i64 m4, .int .i64 m5, .int .i64 m6, .bool m7] rfl _ Try.underlying24 rfl (by kernel_rfl) ?_))
    refine ((HN _).out).mono ?_
    rintro e w5 ⟨rfl, h⟩
    have HL5 := Lib.hid (show Lv w w5 [(R3, #[.int .i64 0, .int .i64 0, .int .i64 0, .int .i64 0, .int .i64 0, .int .i64 0, .int .i64 0, .bool false, .int .i64 0, .int .i64 0, .int .i64 0, .slice none 0 0, .bool false, .int .i64 0], 31), (R2, #[.int .i64 m0, .int .i64 m1, .int .i64 m2, .int .i64 m3, .int .i64 m4, .int .i64 m5, .int .i64 m6, .bool m7], 24), (R1, #[.int .i64 n0, .int .i64 n1, .int .i64 n2, .int .i64 n3, .int .i64 n4, .int .i64 n5, .int .i64 n6, .bool n7, .int .i64 ad, .int .i64 st, .int .i64 lf, .slice a l.length cap], 27)] [] from HL4.out.kept h)
    clear h
    go_wp2_with (first
      | (refine wpList_put_at rfl 31 (.tmp 6) (.tmp 20) rfl rfl (R3) 0 rfl (.agg #[.int .i64 0, .int .i64 0, .int .i64 0, .int .i64 0, .int .i64 0, .int .i64 0, .int .i64 0, .bool false, .int .i64 0, .int .i64 0, .int .i64 0, .slice none 0 0, .bool false, .int .i64 1]) rfl #[.int .i64 0, .int .i64 0, .int .i64 0, .int .i64 0, .int .i64 0, .int .i64 0, .int .i64 0, .bool false, .int .i64 0, .int .i64 0, .int .i64 0, .slice none 0 0, .bool false, .int .i64 1] rfl 31 #[.int .i64 0, .int .i64 0, .int .i64 0, .int .i64 0, .int .i64 0, .int .i64 0, .int .i64 0, .bool false, .int .i64 0, .int .i64 0, .int .i64 0, .slice none 0 0, .bool false, .int .i64 0] #[.int .i64 0, .int .i64 0, .int .i64 0, .int .i64 0, .int .i64 0, .int .i64 0, .int .i64 0, .bool false, .int .i64 0, .int .i64 0, .int .i64 0, .slice none 0 0, .bool false, .int .i64 1] (HL5.out.get (.head _)) (by kernel_rfl) (by kernel_rfl) (by kernel_rfl) (by kernel_rfl) ?_; intro w6 g6 o6; have HL6 := Lib.hid (show Lv w w6 [(R3, #[.int .i64 0, .int .i64 0, .int .i64 0, .int .i64 0, .int .i64 0, .int .i64 0, .int .i64 0, .bool false, .int .i64 0, .int .i64 0, .int .i64 0, .slice none 0 0, .bool false, .int .i64 1], 31), (R2, #[.int .i64 m0, .int .i64 m1, .int .i64 m2, .int .i64 m3, .int .i64 m4, .int .i64 m5, .int .i64 m6, .bool m7], 24), (R1, #[.int .i64 n0, .int .i64 n1, .int .i64 n2, .int .i64 n3, .int .i64 n4, .int .i64 n5, .int .i64 n6, .bool n7, .int .i64 ad, .int .i64 st, .int .i64 lf, .slice a l.length cap], 27)] [] from HL5.out.put 0 rfl g6 o6 (List.forall_mem_cons.2 ⟨Nat.ne_of_lt qR3_R2, (List.forall_mem_cons.2 ⟨Nat.ne_of_lt qR3_R1, (fun _ h => nomatch h)⟩)⟩) (fun _ h => nomatch h) rfl); clear g6 o6))
    exact bodyPost_ret (results_cell_row (p := 6) (ty := 31) (by kernel_rfl) _ _ (R3) 31 _ (0, 0) _ rfl (HL6.out.get (.head _)) Try.underlying31 rfl (by kernel_rfl)) rfl ⟨none, 0, rfl, World.ownsRow_nil _ _ _ _, NumsNew.nil _, HL6.out.below⟩
  rcases hsr : inB 0 255 s
  · rw [show hearO ⟨n, ad, st, lf, l⟩ s m = (zeroCl, false, 1) by unfold hearO; rw [if_neg (by simp [hsr])]]
    unfold ClOwn zeroCl
    rw [hc] at HC
    rw [hm] at HN
    rw [hsr] at HA
    clear hc hlen hm hsr
    obtain ⟨n0, n1, n2, n3, n4, n5, n6, n7⟩ := n
    obtain ⟨m0, m1, m2, m3, m4, m5, m6, m7⟩ := m
    unfold clOutV
    unfold clV at *
    unfold nmV at *
    dsimp only at *
    go_enter Try.func17, Try.ntmps17
    go_wp2_with (first
      | (refine wpList_box_h rfl 27 (.tmp 0) rfl #[.int .i64 n0, .int .i64 n1, .int .i64 n2, .int .i64 n3, .int .i64 n4, .int .i64 n5, .int .i64 n6, .bool n7, .int .i64 ad, .int .i64 st, .int .i64 lf, .slice a l.length cap] rfl ?_; intro w1 R1 e1 g1 b1; have HL1 := Lib.hid (show Lv w w1 [(R1, #[.int .i64 n0, .int .i64 n1, .int .i64 n2, .int .i64 n3, .int .i64 n4, .int .i64 n5, .int .i64 n6, .bool n7, .int .i64 ad, .int .i64 st, .int .i64 lf, .slice a l.length cap], 27)] [] from (Lv.first w).box e1 g1 b1); clear g1 b1 e1)
      | (refine wpList_box_h rfl 24 (.tmp 2) rfl #[.int .i64 m0, .int .i64 m1, .int .i64 m2, .int .i64 m3, .int .i64 m4, .int .i64 m5, .int .i64 m6, .bool m7] rfl ?_; intro w2 R2 e2 g2 b2; have qR2_R1 : R1 < R2 := Nat.lt_of_lt_of_eq (HL1.out.lt (.head _)) e2; have HL2 := Lib.hid (show Lv w w2 [(R2, #[.int .i64 m0, .int .i64 m1, .int .i64 m2, .int .i64 m3, .int .i64 m4, .int .i64 m5, .int .i64 m6, .bool m7], 24), (R1, #[.int .i64 n0, .int .i64 n1, .int .i64 n2, .int .i64 n3, .int .i64 n4, .int .i64 n5, .int .i64 n6, .bool n7, .int .i64 ad, .int .i64 st, .int .i64 lf, .slice a l.length cap], 27)] [] from HL1.out.box e2 g2 b2); clear g2 b2 e2)
      | (refine wpList_alloc_h rfl 31 rfl (.agg #[.int .i64 0, .int .i64 0, .int .i64 0, .int .i64 0, .int .i64 0, .int .i64 0, .int .i64 0, .bool false, .int .i64 0, .int .i64 0, .int .i64 0, .slice none 0 0, .bool false, .int .i64 0]) (by kernel_rfl) #[.int .i64 0, .int .i64 0, .int .i64 0, .int .i64 0, .int .i64 0, .int .i64 0, .int .i64 0, .bool false, .int .i64 0, .int .i64 0, .int .i64 0, .slice none 0 0, .bool false, .int .i64 0] rfl ?_; intro w3 R3 e3 g3 b3; have qR3_R2 : R2 < R3 := Nat.lt_of_lt_of_eq (HL2.out.lt (.head _)) e3; have qR3_R1 : R1 < R3 := Nat.lt_of_lt_of_eq (HL2.out.lt (.tail _ (.head _))) e3; have HL3 := Lib.hid (show Lv w w3 [(R3, #[.int .i64 0, .int .i64 0, .int .i64 0, .int .i64 0, .int .i64 0, .int .i64 0, .int .i64 0, .bool false, .int .i64 0, .int .i64 0, .int .i64 0, .slice none 0 0, .bool false, .int .i64 0], 31), (R2, #[.int .i64 m0, .int .i64 m1, .int .i64 m2, .int .i64 m3, .int .i64 m4, .int .i64 m5, .int .i64 m6, .bool m7], 24), (R1, #[.int .i64 n0, .int .i64 n1, .int .i64 n2, .int .i64 n3, .int .i64 n4, .int .i64 n5, .int .i64 n6, .bool n7, .int .i64 ad, .int .i64 st, .int .i64 lf, .slice a l.length cap], 27)] [] from HL2.out.box e3 g3 b3); clear g3 b3 e3)
      | (refine wpList_load_at rfl 27 (.tmp 3) rfl (R1) 0 rfl 27 #[.int .i64 n0, .int .i64 n1, .int .i64 n2, .int .i64 n3, .int .i64 n4, .int .i64 n5, .int .i64 n6, .bool n7, .int .i64 ad, .int .i64 st, .int .i64 lf, .slice a l.length cap] (0, 0) (HL3.out.get (.tail _ (.tail _ (.head _)))) [.int .i64 n0, .int .i64 n1, .int .i64 n2, .int .i64 n3, .int .i64 n4, .int .i64 n5, .int .i64 n6, .bool n7, .int .i64 ad, .int .i64 st, .int .i64 lf, .slice a l.length cap] rfl _ Try.underlying27 rfl (by kernel_rfl) ?_))
    refine ((HC _ (HI.out.kept HL3.out.below)).out).mono ?_
    rintro e w4 ⟨rfl, h⟩
    have HL4 := Lib.hid (show Lv w w4 [(R3, #[.int .i64 0, .int .i64 0, .int .i64 0, .int .i64 0, .int .i64 0, .int .i64 0, .int .i64 0, .bool false, .int .i64 0, .int .i64 0, .int .i64 0, .slice none 0 0, .bool false, .int .i64 0], 31), (R2, #[.int .i64 m0, .int .i64 m1, .int .i64 m2, .int .i64 m3, .int .i64 m4, .int .i64 m5, .int .i64 m6, .bool m7], 24), (R1, #[.int .i64 n0, .int .i64 n1, .int .i64 n2, .int .i64 n3, .int .i64 n4, .int .i64 n5, .int .i64 n6, .bool n7, .int .i64 ad, .int .i64 st, .int .i64 lf, .slice a l.length cap], 27)] [] from HL3.out.kept h)
    clear h
    go_wp2_with (first
      | (refine wpList_load_at rfl 24 (.tmp 5) rfl (R2) 0 rfl 24 #[.int .i64 m0, .int .i64 m1, .int .i64 m2, .int .i64 m3, .int .i64 m4, .int .i64 m5, .int .i64 m6, .bool m7] (0, 0) (HL4.out.get (.tail _ (.head _))) [.int .i64 m0, .int .i64 m1, .int .i64 m2, .int .i64 m3, .int .i64 m4, .int .i64 m5, .int .i64 m6, .bool m7] rfl _ Try.underlying24 rfl (by kernel_rfl) ?_))
    refine ((HN _).out).mono ?_
    rintro e w5 ⟨rfl, h⟩
    have HL5 := Lib.hid (show Lv w w5 [(R3, #[.int .i64 0, .int .i64 0, .int .i64 0, .int .i64 0, .int .i64 0, .int .i64 0, .int .i64 0, .bool false, .int .i64 0, .int .i64 0, .int .i64 0, .slice none 0 0, .bool false, .int .i64 0], 31), (R2, #[.int .i64 m0, .int .i64 m1, .int .i64 m2, .int .i64 m3, .int .i64 m4, .int .i64 m5, .int .i64 m6, .bool m7], 24), (R1, #[.int .i64 n0, .int .i64 n1, .int .i64 n2, .int .i64 n3, .int .i64 n4, .int .i64 n5, .int .i64 n6, .bool n7, .int .i64 ad, .int .i64 st, .int .i64 lf, .slice a l.length cap], 27)] [] from HL4.out.kept h)
    clear h
    go_wp2_with fail
    refine ((HA _).out).mono ?_
    rintro e w' ⟨rfl, rfl⟩
    go_wp2_with (first
      | (refine wpList_put_at rfl 31 (.tmp 6) (.tmp 20) rfl rfl (R3) 0 rfl (.agg #[.int .i64 0, .int .i64 0, .int .i64 0, .int .i64 0, .int .i64 0, .int .i64 0, .int .i64 0, .bool false, .int .i64 0, .int .i64 0, .int .i64 0, .slice none 0 0, .bool false, .int .i64 1]) rfl #[.int .i64 0, .int .i64 0, .int .i64 0, .int .i64 0, .int .i64 0, .int .i64 0, .int .i64 0, .bool false, .int .i64 0, .int .i64 0, .int .i64 0, .slice none 0 0, .bool false, .int .i64 1] rfl 31 #[.int .i64 0, .int .i64 0, .int .i64 0, .int .i64 0, .int .i64 0, .int .i64 0, .int .i64 0, .bool false, .int .i64 0, .int .i64 0, .int .i64 0, .slice none 0 0, .bool false, .int .i64 0] #[.int .i64 0, .int .i64 0, .int .i64 0, .int .i64 0, .int .i64 0, .int .i64 0, .int .i64 0, .bool false, .int .i64 0, .int .i64 0, .int .i64 0, .slice none 0 0, .bool false, .int .i64 1] (HL5.out.get (.head _)) (by kernel_rfl) (by kernel_rfl) (by kernel_rfl) (by kernel_rfl) ?_; intro w6 g6 o6; have HL6 := Lib.hid (show Lv w w6 [(R3, #[.int .i64 0, .int .i64 0, .int .i64 0, .int .i64 0, .int .i64 0, .int .i64 0, .int .i64 0, .bool false, .int .i64 0, .int .i64 0, .int .i64 0, .slice none 0 0, .bool false, .int .i64 1], 31), (R2, #[.int .i64 m0, .int .i64 m1, .int .i64 m2, .int .i64 m3, .int .i64 m4, .int .i64 m5, .int .i64 m6, .bool m7], 24), (R1, #[.int .i64 n0, .int .i64 n1, .int .i64 n2, .int .i64 n3, .int .i64 n4, .int .i64 n5, .int .i64 n6, .bool n7, .int .i64 ad, .int .i64 st, .int .i64 lf, .slice a l.length cap], 27)] [] from HL5.out.put 0 rfl g6 o6 (List.forall_mem_cons.2 ⟨Nat.ne_of_lt qR3_R2, (List.forall_mem_cons.2 ⟨Nat.ne_of_lt qR3_R1, (fun _ h => nomatch h)⟩)⟩) (fun _ h => nomatch h) rfl); clear g6 o6))
    exact bodyPost_ret (results_cell_row (p := 6) (ty := 31) (by kernel_rfl) _ _ (R3) 31 _ (0, 0) _ rfl (HL6.out.get (.head _)) Try.underlying31 rfl (by kernel_rfl)) rfl ⟨none, 0, rfl, World.ownsRow_nil _ _ _ _, NumsNew.nil _, HL6.out.below⟩
  rw [show hearO ⟨n, ad, st, lf, l⟩ s m = ((hearC ⟨n, ad, st, lf, l⟩ s m (sameN n m)).1, (hearC ⟨n, ad, st, lf, l⟩ s m (sameN n m)).2, 0) by unfold hearO; rw [if_pos ⟨hc, hm, hsr⟩]]
  have HH := fun W hW => Lib.hid (l05Hear_own n m ad st lf s a cap l W hW hlen hc hm)
  rw [hc] at HC
  rw [hm] at HN
  rw [hsr] at HA
  dsimp only at HH ⊢
  generalize hearC ⟨n, ad, st, lf, l⟩ s m (sameN n m) = q at *
  obtain ⟨c2, s2⟩ := q
  obtain ⟨⟨k0, k1, k2, k3, k4, k5, k6, k7⟩, ad2, st2, lf2, l2⟩ := c2
  clear hc hlen hm hsr
  unfold ClOwn at *
  dsimp only at HH ⊢
  unfold clOutV at HH
  obtain ⟨n0, n1, n2, n3, n4, n5, n6, n7⟩ := n
  obtain ⟨m0, m1, m2, m3, m4, m5, m6, m7⟩ := m
  unfold clOutV
  unfold clV at *
  unfold nmV at *
  dsimp only at *
  go_enter Try.func17, Try.ntmps17
  go_wp2_with (first
    | (refine wpList_box_h rfl 27 (.tmp 0) rfl #[.int .i64 n0, .int .i64 n1, .int .i64 n2, .int .i64 n3, .int .i64 n4, .int .i64 n5, .int .i64 n6, .bool n7, .int .i64 ad, .int .i64 st, .int .i64 lf, .slice a l.length cap] rfl ?_; intro w1 R1 e1 g1 b1; have HL1 := Lib.hid (show Lv w w1 [(R1, #[.int .i64 n0, .int .i64 n1, .int .i64 n2, .int .i64 n3, .int .i64 n4, .int .i64 n5, .int .i64 n6, .bool n7, .int .i64 ad, .int .i64 st, .int .i64 lf, .slice a l.length cap], 27)] [] from (Lv.first w).box e1 g1 b1); clear g1 b1 e1)
    | (refine wpList_box_h rfl 24 (.tmp 2) rfl #[.int .i64 m0, .int .i64 m1, .int .i64 m2, .int .i64 m3, .int .i64 m4, .int .i64 m5, .int .i64 m6, .bool m7] rfl ?_; intro w2 R2 e2 g2 b2; have qR2_R1 : R1 < R2 := Nat.lt_of_lt_of_eq (HL1.out.lt (.head _)) e2; have HL2 := Lib.hid (show Lv w w2 [(R2, #[.int .i64 m0, .int .i64 m1, .int .i64 m2, .int .i64 m3, .int .i64 m4, .int .i64 m5, .int .i64 m6, .bool m7], 24), (R1, #[.int .i64 n0, .int .i64 n1, .int .i64 n2, .int .i64 n3, .int .i64 n4, .int .i64 n5, .int .i64 n6, .bool n7, .int .i64 ad, .int .i64 st, .int .i64 lf, .slice a l.length cap], 27)] [] from HL1.out.box e2 g2 b2); clear g2 b2 e2)
    | (refine wpList_alloc_h rfl 31 rfl (.agg #[.int .i64 0, .int .i64 0, .int .i64 0, .int .i64 0, .int .i64 0, .int .i64 0, .int .i64 0, .bool false, .int .i64 0, .int .i64 0, .int .i64 0, .slice none 0 0, .bool false, .int .i64 0]) (by kernel_rfl) #[.int .i64 0, .int .i64 0, .int .i64 0, .int .i64 0, .int .i64 0, .int .i64 0, .int .i64 0, .bool false, .int .i64 0, .int .i64 0, .int .i64 0, .slice none 0 0, .bool false, .int .i64 0] rfl ?_; intro w3 R3 e3 g3 b3; have qR3_R2 : R2 < R3 := Nat.lt_of_lt_of_eq (HL2.out.lt (.head _)) e3; have qR3_R1 : R1 < R3 := Nat.lt_of_lt_of_eq (HL2.out.lt (.tail _ (.head _))) e3; have HL3 := Lib.hid (show Lv w w3 [(R3, #[.int .i64 0, .int .i64 0, .int .i64 0, .int .i64 0, .int .i64 0, .int .i64 0, .int .i64 0, .bool false, .int .i64 0, .int .i64 0, .int .i64 0, .slice none 0 0, .bool false, .int .i64 0], 31), (R2, #[.int .i64 m0, .int .i64 m1, .int .i64 m2, .int .i64 m3, .int .i64 m4, .int .i64 m5, .int .i64 m6, .bool m7], 24), (R1, #[.int .i64 n0, .int .i64 n1, .int .i64 n2, .int .i64 n3, .int .i64 n4, .int .i64 n5, .int .i64 n6, .bool n7, .int .i64 ad, .int .i64 st, .int .i64 lf, .slice a l.length cap], 27)] [] from HL2.out.box e3 g3 b3); clear g3 b3 e3)
    | (refine wpList_load_at rfl 27 (.tmp 3) rfl (R1) 0 rfl 27 #[.int .i64 n0, .int .i64 n1, .int .i64 n2, .int .i64 n3, .int .i64 n4, .int .i64 n5, .int .i64 n6, .bool n7, .int .i64 ad, .int .i64 st, .int .i64 lf, .slice a l.length cap] (0, 0) (HL3.out.get (.tail _ (.tail _ (.head _)))) [.int .i64 n0, .int .i64 n1, .int .i64 n2, .int .i64 n3, .int .i64 n4, .int .i64 n5, .int .i64 n6, .bool n7, .int .i64 ad, .int .i64 st, .int .i64 lf, .slice a l.length cap] rfl _ Try.underlying27 rfl (by kernel_rfl) ?_))
  refine ((HC _ (HI.out.kept HL3.out.below)).out).mono ?_
  rintro e w4 ⟨rfl, h⟩
  have HL4 := Lib.hid (show Lv w w4 [(R3, #[.int .i64 0, .int .i64 0, .int .i64 0, .int .i64 0, .int .i64 0, .int .i64 0, .int .i64 0, .bool false, .int .i64 0, .int .i64 0, .int .i64 0, .slice none 0 0, .bool false, .int .i64 0], 31), (R2, #[.int .i64 m0, .int .i64 m1, .int .i64 m2, .int .i64 m3, .int .i64 m4, .int .i64 m5, .int .i64 m6, .bool m7], 24), (R1, #[.int .i64 n0, .int .i64 n1, .int .i64 n2, .int .i64 n3, .int .i64 n4, .int .i64 n5, .int .i64 n6, .bool n7, .int .i64 ad, .int .i64 st, .int .i64 lf, .slice a l.length cap], 27)] [] from HL3.out.kept h)
  clear h
  go_wp2_with (first
    | (refine wpList_load_at rfl 24 (.tmp 5) rfl (R2) 0 rfl 24 #[.int .i64 m0, .int .i64 m1, .int .i64 m2, .int .i64 m3, .int .i64 m4, .int .i64 m5, .int .i64 m6, .bool m7] (0, 0) (HL4.out.get (.tail _ (.head _))) [.int .i64 m0, .int .i64 m1, .int .i64 m2, .int .i64 m3, .int .i64 m4, .int .i64 m5, .int .i64 m6, .bool m7] rfl _ Try.underlying24 rfl (by kernel_rfl) ?_))
  refine ((HN _).out).mono ?_
  rintro e w5 ⟨rfl, h⟩
  have HL5 := Lib.hid (show Lv w w5 [(R3, #[.int .i64 0, .int .i64 0, .int .i64 0, .int .i64 0, .int .i64 0, .int .i64 0, .int .i64 0, .bool false, .int .i64 0, .int .i64 0, .int .i64 0, .slice none 0 0, .bool false, .int .i64 0], 31), (R2, #[.int .i64 m0, .int .i64 m1, .int .i64 m2, .int .i64 m3, .int .i64 m4, .int .i64 m5, .int .i64 m6, .bool m7], 24), (R1, #[.int .i64 n0, .int .i64 n1, .int .i64 n2, .int .i64 n3, .int .i64 n4, .int .i64 n5, .int .i64 n6, .bool n7, .int .i64 ad, .int .i64 st, .int .i64 lf, .slice a l.length cap], 27)] [] from HL4.out.kept h)
  clear h
  go_wp2_with fail
  refine ((HA _).out).mono ?_
  rintro e w' ⟨rfl, rfl⟩
  go_wp2_with (first
    | (refine wpList_load_at rfl 27 (.tmp 3) rfl (R1) 0 rfl 27 #[.int .i64 n0, .int .i64 n1, .int .i64 n2, .int .i64 n3, .int .i64 n4, .int .i64 n5, .int .i64 n6, .bool n7, .int .i64 ad, .int .i64 st, .int .i64 lf, .slice a l.length cap] (0, 0) (HL5.out.get (.tail _ (.tail _ (.head _)))) [.int .i64 n0, .int .i64 n1, .int .i64 n2, .int .i64 n3, .int .i64 n4, .int .i64 n5, .int .i64 n6, .bool n7, .int .i64 ad, .int .i64 st, .int .i64 lf, .slice a l.length cap] rfl _ Try.underlying27 rfl (by kernel_rfl) ?_)
    | (refine wpList_load_at rfl 24 (.tmp 5) rfl (R2) 0 rfl 24 #[.int .i64 m0, .int .i64 m1, .int .i64 m2, .int .i64 m3, .int .i64 m4, .int .i64 m5, .int .i64 m6, .bool m7] (0, 0) (HL5.out.get (.tail _ (.head _))) [.int .i64 m0, .int .i64 m1, .int .i64 m2, .int .i64 m3, .int .i64 m4, .int .i64 m5, .int .i64 m6, .bool m7] rfl _ Try.underlying24 rfl (by kernel_rfl) ?_))
  refine ((HH _ (HI.out.kept HL5.out.below)).out).mono ?_
  rintro e w6 ⟨a6, c6, rfl, how, hn, h⟩
  obtain ⟨L6, e6⟩ : ∃ x, w5.heap.size = x := ⟨_, rfl⟩
  obtain ⟨H6, f6⟩ : ∃ x, w6.heap.size = x := ⟨_, rfl⟩
  have qL6_R3 : R3 < L6 := Nat.lt_of_lt_of_eq (HL5.out.lt (.head _)) e6
  have qL6_R2 : R2 < L6 := Nat.lt_of_lt_of_eq (HL5.out.lt (.tail _ (.head _))) e6
  have qL6_R1 : R1 < L6 := Nat.lt_of_lt_of_eq (HL5.out.lt (.tail _ (.tail _ (.head _)))) e6
  have qH6_L6 : L6 ≤ H6 := (by rw [← e6, ← f6]; exact h.size)
  have HL6 := Lib.hid (show Lv w w6 [(R3, #[.int .i64 0, .int .i64 0, .int .i64 0, .int .i64 0, .int .i64 0, .int .i64 0, .int .i64 0, .bool false, .int .i64 0, .int .i64 0, .int .i64 0, .slice none 0 0, .bool false, .int .i64 0], 31), (R2, #[.int .i64 m0, .int .i64 m1, .int .i64 m2, .int .i64 m3, .int .i64 m4, .int .i64 m5, .int .i64 m6, .bool m7], 24), (R1, #[.int .i64 n0, .int .i64 n1, .int .i64 n2, .int .i64 n3, .int .i64 n4, .int .i64 n5, .int .i64 n6, .bool n7, .int .i64 ad, .int .i64 st, .int .i64 lf, .slice a l.length cap], 27)] [(L6, H6, a6, l2)] from HL5.out.made e6 f6 h hn)
  have HOW6 := Lib.hid (show w6.ownsRow L6 2 1 (.slice a6 l2.length c6) l2.length (ncells l2) from (by rw [← e6]; exact how))
  clear h hn how e6 f6
  go_wp2_with (first
    | (refine wpList_put_at rfl 31 (.tmp 6) (.tmp 24) rfl rfl (R3) 0 rfl (.agg #[.int .i64 k0, .int .i64 k1, .int .i64 k2, .int .i64 k3, .int .i64 k4, .int .i64 k5, .int .i64 k6, .bool k7, .int .i64 ad2, .int .i64 st2, .int .i64 lf2, (.slice a6 l2.length c6), .bool s2, .int .i64 0]) rfl #[.int .i64 k0, .int .i64 k1, .int .i64 k2, .int .i64 k3, .int .i64 k4, .int .i64 k5, .int .i64 k6, .bool k7, .int .i64 ad2, .int .i64 st2, .int .i64 lf2, (.slice a6 l2.length c6), .bool s2, .int .i64 0] rfl 31 #[.int .i64 0, .int .i64 0, .int .i64 0, .int .i64 0, .int .i64 0, .int .i64 0, .int .i64 0, .bool false, .int .i64 0, .int .i64 0, .int .i64 0, .slice none 0 0, .bool false, .int .i64 0] #[.int .i64 k0, .int .i64 k1, .int .i64 k2, .int .i64 k3, .int .i64 k4, .int .i64 k5, .int .i64 k6, .bool k7, .int .i64 ad2, .int .i64 st2, .int .i64 lf2, (.slice a6 l2.length c6), .bool s2, .int .i64 0] (HL6.out.get (.head _)) (by kernel_rfl) (by kernel_rfl) (by kernel_rfl) (by kernel_rfl) ?_; intro w7 g7 o7; have HL7 := Lib.hid (show Lv w w7 [(R3, #[.int .i64 k0, .int .i64 k1, .int .i64 k2, .int .i64 k3, .int .i64 k4, .int .i64 k5, .int .i64 k6, .bool k7, .int .i64 ad2, .int .i64 st2, .int .i64 lf2, (.slice a6 l2.length c6), .bool s2, .int .i64 0], 31), (R2, #[.int .i64 m0, .int .i64 m1, .int .i64 m2, .int .i64 m3, .int .i64 m4, .int .i64 m5, .int .i64 m6, .bool m7], 24), (R1, #[.int .i64 n0, .int .i64 n1, .int .i64 n2, .int .i64 n3, .int .i64 n4, .int .i64 n5, .int .i64 n6, .bool n7, .int .i64 ad, .int .i64 st, .int .i64 lf, .slice a l.length cap], 27)] [(L6, H6, a6, l2)] from HL6.out.put 0 rfl g7 o7 (List.forall_mem_cons.2 ⟨Nat.ne_of_lt qR3_R2, (List.forall_mem_cons.2 ⟨Nat.ne_of_lt qR3_R1, (fun _ h => nomatch h)⟩)⟩) (List.forall_mem_cons.2 ⟨.inr qL6_R3, (fun _ h => nomatch h)⟩) rfl); have HOW7 := Lib.hid (owns_out HOW6.out o7 qL6_R3); clear g7 o7))
  exact bodyPost_ret (results_cell_row (p := 6) (ty := 31) (by kernel_rfl) _ _ (R3) 31 _ (0, 0) _ rfl (HL7.out.get (.head _)) Try.underlying31 rfl (by kernel_rfl)) rfl ⟨a6, c6, rfl, owns_base HOW7.out (HL7.out.new _ (.head _)).1.1, HL7.out.all (.head _), HL7.out.below⟩
theorem hearO_len2 (n m : Nm) (ad st lf s : Int) (l : List Int) (h : l.length ≤ 1048576) : ∃ (d : Cl) (b : Bool) (c : Int), hearO ⟨n, ad, st, lf, l⟩ s m = (d, b, c) ∧ d.tk.length ≤ 1048576 := by
  unfold hearO
  split
  · rename_i hq
    refine ⟨_, _, _, rfl, ?_⟩
    have := (clB_of (hearC_right (s := s) (m := m) (same := sameN n m) hq.1)).2.1
    exact Nat.le_trans this (by omega)
  · exact ⟨_, _, _, rfl, by show ([] : List Int).length ≤ _; simp⟩
end Go.Proofs.Ytdhmcepnmbchkaa
