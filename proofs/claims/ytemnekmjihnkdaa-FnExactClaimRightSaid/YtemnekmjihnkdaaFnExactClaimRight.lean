/- For every Claim the program's ClaimRight answers as the model's ClaimRight does, and the Claim stays as it was. -/
import Derived.Test.YtemnekmjihnkdaaRows
import Derived.Test.YtemnekmjihnkdaaClaimTo
import Derived.Test.YtemnekmjihnkdaaClaimImpl
import Derived.WalkKit
import Derived.ProofKit
import Derived.OpenShut
import Derived.ShutString
import Derived.ChangeOld
import Derived.Below
import Derived.Carry
namespace Go.Proofs.Ytemnekmjihnkdaa.fnExactClaimRight
open Go.ChangeShapes Go.WideShapes Go.ChangeAt Go.RowKit
open Go.ChangeMaps (open_string shut_string)
set_option linter.unusedVariables false

theorem own : ownKnob Try.prog.godebug = none := by kernel_rfl

set_option maxRecDepth 100000 in
set_option maxHeartbeats 100000000 in
theorem walk (w : World) (v0 : Value) (k0 : IsCl w v0) :
    Calls Try.prog 4 #[v0] w fun e w' => e = .returned (.bool true) ∧ Below w.heap.size w w' := by
  obtain ⟨n, ad, st, lf, a, cap, l, rfl, -, -, -, hin, -, hlen⟩ := k0
  have HS := fun W => Lib.hid (szClaim_any n ad st lf a l.length cap W hlen)
  have HI := Lib.hid hin
  clear hin hlen
  obtain ⟨n0, n1, n2, n3, n4, n5, n6, n7⟩ := n
  unfold clV at HS
  dsimp only at *
  go_enter Try.func4, Try.ntmps4
  go_wp2_with (first
    | (refine wpList_box_h rfl 47 (.tmp 0) rfl #[.int .i64 n0, .int .i64 n1, .int .i64 n2, .int .i64 n3, .int .i64 n4, .int .i64 n5, .int .i64 n6, .bool n7, .int .i64 ad, .int .i64 st, .int .i64 lf, .slice a l.length cap] rfl ?_; intro w1 R1 e1 g1 b1; have HL1 := Lib.hid (show Lv w w1 [(R1, #[.int .i64 n0, .int .i64 n1, .int .i64 n2, .int .i64 n3, .int .i64 n4, .int .i64 n5, .int .i64 n6, .bool n7, .int .i64 ad, .int .i64 st, .int .i64 lf, .slice a l.length cap], 47)] [] from (Lv.first w).box e1 g1 b1); clear g1 b1 e1)
    | (refine wpList_load_at rfl 47 (.tmp 1) rfl (R1) 0 rfl 47 #[.int .i64 n0, .int .i64 n1, .int .i64 n2, .int .i64 n3, .int .i64 n4, .int .i64 n5, .int .i64 n6, .bool n7, .int .i64 ad, .int .i64 st, .int .i64 lf, .slice a l.length cap] (0, 0) (HL1.out.get (.head _)) [.int .i64 n0, .int .i64 n1, .int .i64 n2, .int .i64 n3, .int .i64 n4, .int .i64 n5, .int .i64 n6, .bool n7, .int .i64 ad, .int .i64 st, .int .i64 lf, .slice a l.length cap] rfl _ Try.underlying47 rfl (by kernel_rfl) ?_))
  refine ((HS _).out).mono ?_
  rintro e w2 ⟨m, rfl, hm, h⟩
  have HL2 := Lib.hid (show Lv w w2 [(R1, #[.int .i64 n0, .int .i64 n1, .int .i64 n2, .int .i64 n3, .int .i64 n4, .int .i64 n5, .int .i64 n6, .bool n7, .int .i64 ad, .int .i64 st, .int .i64 lf, .slice a l.length cap], 47)] [] from HL1.out.kept h)
  clear h
  by_cases hneg : m < 0
  · have hd : decide (m < 0) = true := decide_eq_true hneg
    go_wp2_with fail
    go_ret
    exact ⟨rfl, HL2.out.below⟩
  have hd : decide (m < 0) = false := decide_eq_false hneg
  have hl : l.length ≤ 1048576 := hm (by omega)
  have HT := fun W hW => Lib.hid (toClaim_new ⟨n0, n1, n2, n3, n4, n5, n6, n7⟩ ad st lf a cap l W hW hl)
  have HE := fun W a' cap' a cap hW hW' => Lib.hid (eqClaim_same ⟨n0, n1, n2, n3, n4, n5, n6, n7⟩ ad st lf a' a cap' cap l W hW hW' hl)
  have HP := fun W a cap hW => Lib.hid (specClaimRight_any ⟨n0, n1, n2, n3, n4, n5, n6, n7⟩ ad st lf a cap l W hW hl)
  have HQ := fun W a cap hW => Lib.hid (implClaimRight_any ⟨n0, n1, n2, n3, n4, n5, n6, n7⟩ ad st lf a cap l W hW hl)
  obtain ⟨R, hR⟩ : ∃ R, clB ⟨⟨n0, n1, n2, n3, n4, n5, n6, n7⟩, ad, st, lf, l⟩ = R := ⟨_, rfl⟩
  rw [hR] at HP HQ
  have hRR : (R != R) = false := by simp
  clear hm hneg hR
  unfold clV at *
  dsimp only at *
  go_wp2_with (first
    | (refine wpList_load_at rfl 47 (.tmp 1) rfl (R1) 0 rfl 47 #[.int .i64 n0, .int .i64 n1, .int .i64 n2, .int .i64 n3, .int .i64 n4, .int .i64 n5, .int .i64 n6, .bool n7, .int .i64 ad, .int .i64 st, .int .i64 lf, .slice a l.length cap] (0, 0) (HL2.out.get (.head _)) [.int .i64 n0, .int .i64 n1, .int .i64 n2, .int .i64 n3, .int .i64 n4, .int .i64 n5, .int .i64 n6, .bool n7, .int .i64 ad, .int .i64 st, .int .i64 lf, .slice a l.length cap] rfl _ Try.underlying47 rfl (by kernel_rfl) ?_)
    | (go_at_call 26; refine ((HT _ (HI.out.kept HL2.out.below)).out).mono ?_; rintro e w3 ⟨g3, rfl, hn, h⟩; obtain ⟨L3, e3⟩ : ∃ x, w2.heap.size = x := ⟨_, rfl⟩; obtain ⟨H3, f3⟩ : ∃ x, w3.heap.size = x := ⟨_, rfl⟩; have qL3_R1 : R1 < L3 := (by have := HL2.out.lt (.head _); omega); have qH3_L3 : L3 ≤ H3 := (by have := h.size; omega); have HL3 := Lib.hid (show Lv w w3 [(R1, #[.int .i64 n0, .int .i64 n1, .int .i64 n2, .int .i64 n3, .int .i64 n4, .int .i64 n5, .int .i64 n6, .bool n7, .int .i64 ad, .int .i64 st, .int .i64 lf, .slice a l.length cap], 47)] [(L3, H3, some ⟨g3, 0, none⟩, l)] from HL2.out.made e3 f3 h hn); clear h hn e3 f3)
    | (go_at_call 23; refine ((HP _ _ _ (HL3.out.numsOf (.head _))).out).mono ?_; rintro e w4 ⟨rfl, h⟩; have HL4 := Lib.hid (show Lv w w4 [(R1, #[.int .i64 n0, .int .i64 n1, .int .i64 n2, .int .i64 n3, .int .i64 n4, .int .i64 n5, .int .i64 n6, .bool n7, .int .i64 ad, .int .i64 st, .int .i64 lf, .slice a l.length cap], 47)] [(L3, H3, some ⟨g3, 0, none⟩, l)] from HL3.out.kept h); clear h)
    | (refine wpList_load_at rfl 47 (.tmp 1) rfl (R1) 0 rfl 47 #[.int .i64 n0, .int .i64 n1, .int .i64 n2, .int .i64 n3, .int .i64 n4, .int .i64 n5, .int .i64 n6, .bool n7, .int .i64 ad, .int .i64 st, .int .i64 lf, .slice a l.length cap] (0, 0) (HL4.out.get (.head _)) [.int .i64 n0, .int .i64 n1, .int .i64 n2, .int .i64 n3, .int .i64 n4, .int .i64 n5, .int .i64 n6, .bool n7, .int .i64 ad, .int .i64 st, .int .i64 lf, .slice a l.length cap] rfl _ Try.underlying47 rfl (by kernel_rfl) ?_)
    | (go_at_call 26; refine ((HT _ (HI.out.kept HL4.out.below)).out).mono ?_; rintro e w5 ⟨g5, rfl, hn, h⟩; obtain ⟨L5, e5⟩ : ∃ x, w4.heap.size = x := ⟨_, rfl⟩; obtain ⟨H5, f5⟩ : ∃ x, w5.heap.size = x := ⟨_, rfl⟩; have qL5_R1 : R1 < L5 := (by have := HL4.out.lt (.head _); omega); have qL5_H3 : H3 ≤ L5 := (by have := HL4.out.hi (.head _); omega); have qH5_L5 : L5 ≤ H5 := (by have := h.size; omega); have HL5 := Lib.hid (show Lv w w5 [(R1, #[.int .i64 n0, .int .i64 n1, .int .i64 n2, .int .i64 n3, .int .i64 n4, .int .i64 n5, .int .i64 n6, .bool n7, .int .i64 ad, .int .i64 st, .int .i64 lf, .slice a l.length cap], 47)] [(L5, H5, some ⟨g5, 0, none⟩, l), (L3, H3, some ⟨g3, 0, none⟩, l)] from HL4.out.made e5 f5 h hn); clear h hn e5 f5)
    | (refine wpList_alloc_h rfl 27 rfl (.agg #[.int .i64 0, .int .i64 0, .int .i64 0, .int .i64 0, .int .i64 0, .int .i64 0, .int .i64 0, .bool false, .int .i64 0, .int .i64 0, .int .i64 0, .slice none 0 0]) (by kernel_rfl) #[.int .i64 0, .int .i64 0, .int .i64 0, .int .i64 0, .int .i64 0, .int .i64 0, .int .i64 0, .bool false, .int .i64 0, .int .i64 0, .int .i64 0, .slice none 0 0] rfl ?_; intro w6 R6 e6 g6 b6; have qR6_R1 : R1 < R6 := (by have := HL5.out.lt (.head _); omega); have qR6_H5 : H5 ≤ R6 := (by have := HL5.out.hi (.head _); omega); have qR6_H3 : H3 ≤ R6 := (by have := HL5.out.hi (.tail _ (.head _)); omega); have HL6 := Lib.hid (show Lv w w6 [(R6, #[.int .i64 0, .int .i64 0, .int .i64 0, .int .i64 0, .int .i64 0, .int .i64 0, .int .i64 0, .bool false, .int .i64 0, .int .i64 0, .int .i64 0, .slice none 0 0], 27), (R1, #[.int .i64 n0, .int .i64 n1, .int .i64 n2, .int .i64 n3, .int .i64 n4, .int .i64 n5, .int .i64 n6, .bool n7, .int .i64 ad, .int .i64 st, .int .i64 lf, .slice a l.length cap], 47)] [(L5, H5, some ⟨g5, 0, none⟩, l), (L3, H3, some ⟨g3, 0, none⟩, l)] from HL5.out.box e6 g6 b6); clear g6 b6 e6)
    | (refine wpList_put_at rfl 27 (.tmp 5) (.tmp 16) rfl rfl (R6) 0 rfl (.agg #[.int .i64 n0, .int .i64 n1, .int .i64 n2, .int .i64 n3, .int .i64 n4, .int .i64 n5, .int .i64 n6, .bool n7, .int .i64 ad, .int .i64 st, .int .i64 lf, .slice (some ⟨g5, 0, none⟩) l.length l.length]) rfl #[.int .i64 n0, .int .i64 n1, .int .i64 n2, .int .i64 n3, .int .i64 n4, .int .i64 n5, .int .i64 n6, .bool n7, .int .i64 ad, .int .i64 st, .int .i64 lf, .slice (some ⟨g5, 0, none⟩) l.length l.length] rfl 27 #[.int .i64 0, .int .i64 0, .int .i64 0, .int .i64 0, .int .i64 0, .int .i64 0, .int .i64 0, .bool false, .int .i64 0, .int .i64 0, .int .i64 0, .slice none 0 0] #[.int .i64 n0, .int .i64 n1, .int .i64 n2, .int .i64 n3, .int .i64 n4, .int .i64 n5, .int .i64 n6, .bool n7, .int .i64 ad, .int .i64 st, .int .i64 lf, .slice (some ⟨g5, 0, none⟩) l.length l.length] (HL6.out.get (.head _)) (by kernel_rfl) (by kernel_rfl) (by kernel_rfl) (by kernel_rfl) ?_; intro w7 g7 o7; have HL7 := Lib.hid (show Lv w w7 [(R6, #[.int .i64 n0, .int .i64 n1, .int .i64 n2, .int .i64 n3, .int .i64 n4, .int .i64 n5, .int .i64 n6, .bool n7, .int .i64 ad, .int .i64 st, .int .i64 lf, .slice (some ⟨g5, 0, none⟩) l.length l.length], 27), (R1, #[.int .i64 n0, .int .i64 n1, .int .i64 n2, .int .i64 n3, .int .i64 n4, .int .i64 n5, .int .i64 n6, .bool n7, .int .i64 ad, .int .i64 st, .int .i64 lf, .slice a l.length cap], 47)] [(L5, H5, some ⟨g5, 0, none⟩, l), (L3, H3, some ⟨g3, 0, none⟩, l)] from HL6.out.put 0 rfl g7 o7 (by simp <;> omega) (by simp <;> omega) rfl); clear g7 o7)
    | (refine wpList_load_at rfl 27 (.tmp 5) rfl (R6) 0 rfl 27 #[.int .i64 n0, .int .i64 n1, .int .i64 n2, .int .i64 n3, .int .i64 n4, .int .i64 n5, .int .i64 n6, .bool n7, .int .i64 ad, .int .i64 st, .int .i64 lf, .slice (some ⟨g5, 0, none⟩) l.length l.length] (0, 0) (HL7.out.get (.head _)) [.int .i64 n0, .int .i64 n1, .int .i64 n2, .int .i64 n3, .int .i64 n4, .int .i64 n5, .int .i64 n6, .bool n7, .int .i64 ad, .int .i64 st, .int .i64 lf, .slice (some ⟨g5, 0, none⟩) l.length l.length] rfl _ Try.underlying27 rfl (by kernel_rfl) ?_)
    | (go_at_call 22; refine ((HQ _ _ _ (HL7.out.numsOf (.head _))).out).mono ?_; rintro e w8 ⟨rfl, h⟩; have HL8 := Lib.hid (show Lv w w8 [(R6, #[.int .i64 n0, .int .i64 n1, .int .i64 n2, .int .i64 n3, .int .i64 n4, .int .i64 n5, .int .i64 n6, .bool n7, .int .i64 ad, .int .i64 st, .int .i64 lf, .slice (some ⟨g5, 0, none⟩) l.length l.length], 27), (R1, #[.int .i64 n0, .int .i64 n1, .int .i64 n2, .int .i64 n3, .int .i64 n4, .int .i64 n5, .int .i64 n6, .bool n7, .int .i64 ad, .int .i64 st, .int .i64 lf, .slice a l.length cap], 47)] [(L5, H5, some ⟨g5, 0, none⟩, l), (L3, H3, some ⟨g3, 0, none⟩, l)] from HL7.out.kept h); clear h))
  clear HP HQ HS
  have HK := Lib.hid (show ∀ W, Below w8.heap.size w8 W → (((W.cell? ⟨R6, 0, none⟩ = some (.int .i64 n0) ∧ W.cell? ⟨R6, 1, none⟩ = some (.int .i64 n1) ∧ W.cell? ⟨R6, 2, none⟩ = some (.int .i64 n2) ∧ W.cell? ⟨R6, 3, none⟩ = some (.int .i64 n3) ∧ W.cell? ⟨R6, 4, none⟩ = some (.int .i64 n4) ∧ W.cell? ⟨R6, 5, none⟩ = some (.int .i64 n5) ∧ W.cell? ⟨R6, 6, none⟩ = some (.int .i64 n6) ∧ W.cell? ⟨R6, 7, none⟩ = some (.bool n7) ∧ W.cell? ⟨R6, 8, none⟩ = some (.int .i64 ad) ∧ W.cell? ⟨R6, 9, none⟩ = some (.int .i64 st) ∧ W.cell? ⟨R6, 10, none⟩ = some (.int .i64 lf) ∧ W.cell? ⟨R6, 11, none⟩ = some (.slice (some ⟨g5, 0, none⟩) l.length l.length)) ∧ (W.cell? ⟨R1, 0, none⟩ = some (.int .i64 n0) ∧ W.cell? ⟨R1, 1, none⟩ = some (.int .i64 n1) ∧ W.cell? ⟨R1, 2, none⟩ = some (.int .i64 n2) ∧ W.cell? ⟨R1, 3, none⟩ = some (.int .i64 n3) ∧ W.cell? ⟨R1, 4, none⟩ = some (.int .i64 n4) ∧ W.cell? ⟨R1, 5, none⟩ = some (.int .i64 n5) ∧ W.cell? ⟨R1, 6, none⟩ = some (.int .i64 n6) ∧ W.cell? ⟨R1, 7, none⟩ = some (.bool n7) ∧ W.cell? ⟨R1, 8, none⟩ = some (.int .i64 ad) ∧ W.cell? ⟨R1, 9, none⟩ = some (.int .i64 st) ∧ W.cell? ⟨R1, 10, none⟩ = some (.int .i64 lf) ∧ W.cell? ⟨R1, 11, none⟩ = some (.slice a l.length cap))) ∧ Below w8.heap.size w8 W) from fun W hW => by
    have hX := (hW.block R6 (HL8.out.lt (.head _))).trans (HL8.out.get (.head _))
    have hA := (hW.block R1 (HL8.out.lt (.tail _ (.head _)))).trans (HL8.out.get (.tail _ (.head _)))
    refine ⟨⟨⟨?_, ?_, ?_, ?_, ?_, ?_, ?_, ?_, ?_, ?_, ?_, ?_⟩, ?_, ?_, ?_, ?_, ?_, ?_, ?_, ?_, ?_, ?_, ?_, ?_⟩, hW⟩
    all_goals first | (rw [cell_of_row W R6 _ _ _ (0, 0) hX]; rfl) | (rw [cell_of_row W R1 _ _ _ (0, 0) hA]; rfl))
  go_region_held3 (fun W => ((W.cell? ⟨R6, 0, none⟩ = some (.int .i64 n0) ∧ W.cell? ⟨R6, 1, none⟩ = some (.int .i64 n1) ∧ W.cell? ⟨R6, 2, none⟩ = some (.int .i64 n2) ∧ W.cell? ⟨R6, 3, none⟩ = some (.int .i64 n3) ∧ W.cell? ⟨R6, 4, none⟩ = some (.int .i64 n4) ∧ W.cell? ⟨R6, 5, none⟩ = some (.int .i64 n5) ∧ W.cell? ⟨R6, 6, none⟩ = some (.int .i64 n6) ∧ W.cell? ⟨R6, 7, none⟩ = some (.bool n7) ∧ W.cell? ⟨R6, 8, none⟩ = some (.int .i64 ad) ∧ W.cell? ⟨R6, 9, none⟩ = some (.int .i64 st) ∧ W.cell? ⟨R6, 10, none⟩ = some (.int .i64 lf) ∧ W.cell? ⟨R6, 11, none⟩ = some (.slice (some ⟨g5, 0, none⟩) l.length l.length)) ∧ (W.cell? ⟨R1, 0, none⟩ = some (.int .i64 n0) ∧ W.cell? ⟨R1, 1, none⟩ = some (.int .i64 n1) ∧ W.cell? ⟨R1, 2, none⟩ = some (.int .i64 n2) ∧ W.cell? ⟨R1, 3, none⟩ = some (.int .i64 n3) ∧ W.cell? ⟨R1, 4, none⟩ = some (.int .i64 n4) ∧ W.cell? ⟨R1, 5, none⟩ = some (.int .i64 n5) ∧ W.cell? ⟨R1, 6, none⟩ = some (.int .i64 n6) ∧ W.cell? ⟨R1, 7, none⟩ = some (.bool n7) ∧ W.cell? ⟨R1, 8, none⟩ = some (.int .i64 ad) ∧ W.cell? ⟨R1, 9, none⟩ = some (.int .i64 st) ∧ W.cell? ⟨R1, 10, none⟩ = some (.int .i64 lf) ∧ W.cell? ⟨R1, 11, none⟩ = some (.slice a l.length cap))) ∧ Below w8.heap.size w8 W)
    (first | with_reducible exact HK.out _ (Below.refl _ _).drew | with_reducible exact HK.out _ bz1 | with_reducible exact HK.out _ bz2)
    (first
      | (go_at_call 26; refine (HT _ (HI.out.kept HL8.out.below.drew)).out.mono ?_; rintro e wz1 ⟨gz, rfl, hnz, hz1⟩; have bz1 : Below w8.heap.size w8 wz1 := (Below.refl _ _).drew.trans (hz1.mono (Nat.le_refl _)); have HZ := Lib.hid hnz; clear hnz)
      | (go_at_call 27; refine (HE _ _ _ _ _ ((HL8.out.numsOf (.head _)).kept bz1) HZ.out.nums).out.mono ?_; rintro e wz2 ⟨rfl, hz2⟩; have bz2 : Below w8.heap.size w8 wz2 := bz1.trans (hz2.mono bz1.size)))
  have HL9 := Lib.hid (show Lv w wz2 [(R6, #[.int .i64 n0, .int .i64 n1, .int .i64 n2, .int .i64 n3, .int .i64 n4, .int .i64 n5, .int .i64 n6, .bool n7, .int .i64 ad, .int .i64 st, .int .i64 lf, .slice (some ⟨g5, 0, none⟩) l.length l.length], 27), (R1, #[.int .i64 n0, .int .i64 n1, .int .i64 n2, .int .i64 n3, .int .i64 n4, .int .i64 n5, .int .i64 n6, .bool n7, .int .i64 ad, .int .i64 st, .int .i64 lf, .slice a l.length cap], 47)] [(L5, H5, some ⟨g5, 0, none⟩, l), (L3, H3, some ⟨g3, 0, none⟩, l)] from HL8.out.kept bz2)
  go_wp2_with fail
  go_ret
  exact ⟨rfl, HL9.out.below⟩

set_option maxRecDepth 100000 in
theorem lifted (os : Os) (started : os.Started) (H : Type) (enc : TypeId × Value → H) :
    ReturnsInHanded {} Try.checked os 4 .any (Rows.fnExactClaimRightSpec.pre6 enc Try.prog Try.f4 Rows.fnExactClaimRightRow.domain false) (Rows.fnExactClaimRightSpec.post enc Try.prog Try.f4 false true false false) := by
  refine returnsInHanded_of_change (C := Try.checked) own started (by kernel_rfl) Try.func4
    (ChangeSpec.witness6 (enc := enc) (C := Try.checked) false ⟨#[], #[.agg #[.int .i64 0, .int .i64 0, .int .i64 0, .int .i64 0, .int .i64 0, .int .i64 0, .int .i64 0, .bool false, .int .i64 0, .int .i64 0, .int .i64 0, .slice none 0 0]], []⟩ 8 (by kernel_rfl) (by kernel_rfl) (by kernel_rfl) (by kernel_rfl)) ?_
  intro W base args ds gs before hval0 hW hcnd _
  have hval : ∀ (j : Nat) t v, Try.f4.params[j]? = some t → args[j]? = some v → Value.okWide Try.prog W .any base t v := hval0
  have hW' := hW
  obtain ⟨p, q, hA0, hV, rfl, hfz, hnd⟩ := hW
  have hlt := DataW.TrodAll.lt hA0
  have hA : DataW.TrodAll enc Try.prog W 0 (fun _ => true) true Try.f4.params.toList args.toList ds p := hA0
  rw [Try.params4] at hA hval
  obtain ⟨v0, vs0, d0, ds0, p0, q0, hargs, rfl, rfl, h0, r0⟩ := trodAll_cons hA
  obtain ⟨rfl, rfl, rfl⟩ := trodAll_nil r0
  obtain rfl : args = #[v0] := by cases args; simp_all
  obtain ⟨rfl, rfl⟩ := trodVars_none hV
  have l0 : ∀ x ∈ p0, x.block < W.heap.size := fun x hx => hlt x (by simp [hx])
  have k0 := open_Cl (hval 0 47 v0 rfl rfl) h0
  clear hA0 hval0
  simp only [List.append_nil] at hW'
  refine (walk W v0 k0).mono fun e W' ⟨he, hg⟩ => ?_
  subst he
  exact ⟨_, rfl, _, _, _, [], _, [], hW', (trodAll_cons_mk (shut_bool Try.underlying4 _) trodAll_mk0), (trodAll_cons_mk (Below.trod (by kernel_rfl) (by kernel_rfl) (of_decide_eq_true (by kernel_rfl)) h0 hg l0) trodAll_mk0), rfl, hg.frame _, fun h => by cases h⟩

theorem over : Rows.fnExactClaimRightRow.holds Try.pinned (OpenSpec.ofChange Rows.fnExactClaimRightSpec) :=
  OpenClaim.holds_of_wide 4 Try.f4 rfl rfl rfl rfl rfl rfl rfl ⟨rfl, rfl, rfl, rfl, rfl⟩ rfl rfl rfl rfl rfl (by kernel_rfl) Try.func4 (by kernel_rfl)
    (of_decide_eq_true (by kernel_rfl)) (by unfold Func.isWrapper; first | (rw [if_pos (by decide +kernel)]; kernel_rfl) | (rw [if_neg (by decide +kernel)]; exact ⟨rfl, rfl⟩))
    (fun os started H enc _ => lifted os started H enc)

/-- ████ THE STATEMENT ████ -/
theorem proved : Rows.FnExactClaimRightSaid :=
  over
#print axioms proved
end Go.Proofs.Ytemnekmjihnkdaa.fnExactClaimRight
