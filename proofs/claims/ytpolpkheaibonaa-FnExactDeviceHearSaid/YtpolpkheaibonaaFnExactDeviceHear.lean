/- For every list of Devices, every address and every Name the program's DeviceHear answers as the model's DeviceHear does, in memory of its own. -/
import Derived.Test.YtpolpkheaibonaaRows
import Derived.Test.YtpolpkheaibonaaHearAll
import Derived.WalkKit
import Derived.ProofKit
import Derived.OpenShut
import Derived.ShutString
import Derived.ChangeOld
import Derived.Below
import Derived.Carry
namespace Go.Proofs.Ytpolpkheaibonaa.fnExactDeviceHear
open Go.ChangeShapes Go.WideShapes Go.ChangeAt Go.RowKit
open Go.ChangeMaps (open_string shut_string)
set_option linter.unusedVariables false

theorem own : ownKnob Try.prog.godebug = none := by kernel_rfl

set_option maxRecDepth 100000 in
set_option maxHeartbeats 16000000 in
theorem walk (w : World) (v0 : Value) (k0 : IsDvs w v0) (v1 : Value) (k1 : IsI64 v1) (v2 : Value) (k2 : IsNm v2) :
    Calls Try.prog 4 #[v0, v1, v2] w fun e w' => e = .returned (.bool true) ∧ Below w.heap.size w w' := by
  obtain ⟨a, cap, l, rfl, hin, hok, hlen⟩ := k0
  obtain ⟨ad, rfl, had64⟩ := k1
  obtain ⟨n, rfl, hn⟩ := k2
  clear hn hok
  have HS := fun W => Lib.hid (szDeviceS_any a cap l.length W hlen)
  have HI := Lib.hid hin
  have HM := Lib.hid (show l.length ≤ maxLen from hlen)
  have HT := fun W => Lib.hid (toName_any n W)
  obtain ⟨L, hL⟩ : ∃ L, hearV l ad n = L := ⟨_, rfl⟩
  have hL8 : L.length ≤ 401 := hL ▸ hearV_len l ad n
  have HSP := fun W b c h => Lib.hid (specDeviceHear_any b c l ad n W h HM.out)
  have HIM := fun W b h hl => Lib.hid (implDeviceHear_any b l.length l ad n W h hl (Nat.le_refl _))
  unfold DvOut at HSP HIM
  rw [hL] at HSP HIM
  clear hL
  have g1 : decide (((1 + 10 * L.length : Nat) : Int) < 0) = false := decide_eq_false (by omega)
  have g2 : decide (((1 + 10 * l.length : Nat) : Int) < 0) = false := decide_eq_false (by omega)
  have g3 : (((1 + 10 * L.length : Nat) : Int) != ((1 + 10 * L.length : Nat) : Int)) = false := by simp
  obtain ⟨n0, n1, n2, n3, n4, n5, n6, n7⟩ := n
  unfold nmV at *
  dsimp only at *
  clear hin
  go_enter Try.func4, Try.ntmps4
  go_wp2_with (first
    | (refine wpList_box_h rfl 31 (.tmp 2) rfl #[.int .i64 n0, .int .i64 n1, .int .i64 n2, .int .i64 n3, .int .i64 n4, .int .i64 n5, .int .i64 n6, .bool n7] rfl ?_; intro w1 R1 e1 g1 b1; have HL1 := Lib.hid (show Lg w w1 [(R1, #[.int .i64 n0, .int .i64 n1, .int .i64 n2, .int .i64 n3, .int .i64 n4, .int .i64 n5, .int .i64 n6, .bool n7], 31)] [] from (Lg.first w).box e1 g1 b1); clear g1 b1 e1))
  refine ((HS _).out).mono ?_
  rintro e w2 ⟨m, rfl, hm2, h⟩
  have HL2 := Lib.hid (show Lg w w2 [(R1, #[.int .i64 n0, .int .i64 n1, .int .i64 n2, .int .i64 n3, .int .i64 n4, .int .i64 n5, .int .i64 n6, .bool n7], 31)] [] from HL1.out.kept h)
  clear h
  by_cases hneg : m < 0
  · have hd : decide (m < 0) = true := decide_eq_true hneg
    go_wp2_with fail
    go_ret
    exact ⟨rfl, HL2.out.below⟩
  have hd : decide (m < 0) = false := decide_eq_false hneg
  have hl : l.length ≤ 1048576 := hm2 (by omega)
  clear hm2 hneg hlen HS
  go_wp2_with fail
  have HKs7 := Lib.hid (show ∀ W, Below w2.heap.size w2 W → ((W.cell? ⟨R1, 0, none⟩ = some (.int .i64 n0) ∧ W.cell? ⟨R1, 1, none⟩ = some (.int .i64 n1) ∧ W.cell? ⟨R1, 2, none⟩ = some (.int .i64 n2) ∧ W.cell? ⟨R1, 3, none⟩ = some (.int .i64 n3) ∧ W.cell? ⟨R1, 4, none⟩ = some (.int .i64 n4) ∧ W.cell? ⟨R1, 5, none⟩ = some (.int .i64 n5) ∧ W.cell? ⟨R1, 6, none⟩ = some (.int .i64 n6) ∧ W.cell? ⟨R1, 7, none⟩ = some (.bool n7)) ∧ Below w2.heap.size w2 W) from fun W hW => by
    have hA := (hW.block R1 (HL2.out.lt (.head _))).trans (HL2.out.get (.head _))
    refine ⟨⟨?_, ?_, ?_, ?_, ?_, ?_, ?_, ?_⟩, hW⟩
    all_goals (rw [cell_of_row W R1 _ _ _ (0, 0) hA]; rfl))
  go_region_held3 (fun W => (W.cell? ⟨R1, 0, none⟩ = some (.int .i64 n0) ∧ W.cell? ⟨R1, 1, none⟩ = some (.int .i64 n1) ∧ W.cell? ⟨R1, 2, none⟩ = some (.int .i64 n2) ∧ W.cell? ⟨R1, 3, none⟩ = some (.int .i64 n3) ∧ W.cell? ⟨R1, 4, none⟩ = some (.int .i64 n4) ∧ W.cell? ⟨R1, 5, none⟩ = some (.int .i64 n5) ∧ W.cell? ⟨R1, 6, none⟩ = some (.int .i64 n6) ∧ W.cell? ⟨R1, 7, none⟩ = some (.bool n7)) ∧ Below w2.heap.size w2 W)
    (first | with_reducible exact HKs7.out _ (Below.refl _ _).drew | with_reducible exact HKs7.out _ bas7 | with_reducible exact HKs7.out _ bns72 | with_reducible exact HKs7.out _ bds72 | with_reducible exact HKs7.out _ bds71 | with_reducible exact HKs7.out _ bns71)
    (first
      | (go_at_call 10; refine (toDeviceS_new a cap l _ (HI.out.kept (HL2.out.below.trans (bns71.mono HL2.out.below.size))) hl).mono ?_; rintro e wds72 ⟨az, rfl, hnz, hz⟩; have bds72 : Below w2.heap.size w2 wds72 := bns71.trans (hz.mono bns71.size); have HZs7 := Lib.hid (hnz.ins); clear hnz)
      | (go_at_call 10; refine (toDeviceS_new a cap l _ (HI.out.kept HL2.out.below.drew) hl).mono ?_; rintro e wds71 ⟨az, rfl, hnz, hz⟩; have bds71 : Below w2.heap.size w2 wds71 := (Below.refl _ _).drew.trans (hz.mono (Nat.le_refl _)); have HZ0s7 := Lib.hid (hnz.ins); clear hnz)
      | (go_at_call 16; refine (HT _).out.mono ?_; rintro e wns72 ⟨rfl, hz2⟩; have bns72 : Below w2.heap.size w2 wns72 := bds71.trans (hz2.mono bds71.size); have HZs7 := Lib.hid (HZ0s7.out.kept hz2))
      | (go_at_call 16; refine (HT _).out.mono ?_; rintro e wns71 ⟨rfl, hz2⟩; have bns71 : Below w2.heap.size w2 wns71 := (Below.refl _ _).drew.trans (hz2.mono (Nat.le_refl _)))
      | (go_at_call 15; refine (HSP _ _ _ HZs7.out).out.mono ?_; rintro e was7 ⟨aas7, cas7, rfl, hna, hz3⟩; have HNs7 := Lib.hid (show RsNew dvL 10 78 w2.heap.size was7.heap.size was7 aas7 L from (by first | exact hna.wide bns72.size (Nat.le_refl _) | exact hna.wide bds72.size (Nat.le_refl _))); clear hna; have bas7 : Below w2.heap.size w2 was7 := (by first | exact bns72.trans (hz3.mono bns72.size) | exact bds72.trans (hz3.mono bds72.size))))
  obtain ⟨L3, e3⟩ : ∃ x, w2.heap.size = x := ⟨_, rfl⟩
  obtain ⟨H3, f3⟩ : ∃ x, was7.heap.size = x := ⟨_, rfl⟩
  have qL3_R1 : R1 < L3 := Nat.lt_of_lt_of_eq (HL2.out.lt (.head _)) e3
  have qH3_L3 : L3 ≤ H3 := (by rw [← e3, ← f3]; exact bas7.size)
  have HL3 := Lib.hid (show Lg w was7 [(R1, #[.int .i64 n0, .int .i64 n1, .int .i64 n2, .int .i64 n3, .int .i64 n4, .int .i64 n5, .int .i64 n6, .bool n7], 31)] [(L3, H3, fun W => RsNew dvL 10 78 L3 H3 W aas7 L)] from HL2.out.made e3 f3 bas7 (by rw [← e3, ← f3]; exact HNs7.out.solid))
  go_wp2_with fail
  refine ((toDeviceS_new a cap l _ (HI.out.kept HL3.out.below) hl)).mono ?_
  rintro e w4 ⟨a4, rfl, hn, h⟩
  obtain ⟨L4, e4⟩ : ∃ x, was7.heap.size = x := ⟨_, rfl⟩
  obtain ⟨H4, f4⟩ : ∃ x, w4.heap.size = x := ⟨_, rfl⟩
  have qL4_R1 : R1 < L4 := Nat.lt_of_lt_of_eq (HL3.out.lt (.head _)) e4
  have qL4_H3 : H3 ≤ L4 := Nat.le_trans (HL3.out.hi (.head _)).2 (Nat.le_of_eq e4)
  have qH4_L4 : L4 ≤ H4 := (by rw [← e4, ← f4]; exact h.size)
  have HL4 := Lib.hid (show Lg w w4 [(R1, #[.int .i64 n0, .int .i64 n1, .int .i64 n2, .int .i64 n3, .int .i64 n4, .int .i64 n5, .int .i64 n6, .bool n7], 31)] [(L4, H4, fun W => RsNew dvL 10 78 L4 H4 W a4 l), (L3, H3, fun W => RsNew dvL 10 78 L3 H3 W aas7 L)] from HL3.out.made e4 f4 h (by rw [← e4, ← f4]; exact hn.solid))
  clear h hn e4 f4
  go_wp2_with (first
    | (refine wpList_load_at rfl 31 (.tmp 5) rfl (R1) 0 rfl 31 #[.int .i64 n0, .int .i64 n1, .int .i64 n2, .int .i64 n3, .int .i64 n4, .int .i64 n5, .int .i64 n6, .bool n7] (0, 0) (HL4.out.get (.head _)) [.int .i64 n0, .int .i64 n1, .int .i64 n2, .int .i64 n3, .int .i64 n4, .int .i64 n5, .int .i64 n6, .bool n7] rfl _ Try.underlying31 rfl (by kernel_rfl) ?_))
  refine ((HT _).out).mono ?_
  rintro e w5 ⟨rfl, h⟩
  have HL5 := Lib.hid (show Lg w w5 [(R1, #[.int .i64 n0, .int .i64 n1, .int .i64 n2, .int .i64 n3, .int .i64 n4, .int .i64 n5, .int .i64 n6, .bool n7], 31)] [(L4, H4, fun W => RsNew dvL 10 78 L4 H4 W a4 l), (L3, H3, fun W => RsNew dvL 10 78 L3 H3 W aas7 L)] from HL4.out.kept h)
  clear h
  go_wp2_with fail
  refine (((HIM _ _ (HL5.out.at (.head _)).ins hl).out)).mono ?_
  rintro e w6 ⟨a6, c6, rfl, hn, h⟩
  obtain ⟨L6, e6⟩ : ∃ x, w5.heap.size = x := ⟨_, rfl⟩
  obtain ⟨H6, f6⟩ : ∃ x, w6.heap.size = x := ⟨_, rfl⟩
  have qL6_R1 : R1 < L6 := Nat.lt_of_lt_of_eq (HL5.out.lt (.head _)) e6
  have qL6_H4 : H4 ≤ L6 := Nat.le_trans (HL5.out.hi (.head _)).2 (Nat.le_of_eq e6)
  have qL6_H3 : H3 ≤ L6 := Nat.le_trans (HL5.out.hi (.tail _ (.head _))).2 (Nat.le_of_eq e6)
  have qH6_L6 : L6 ≤ H6 := (by rw [← e6, ← f6]; exact h.size)
  have HL6 := Lib.hid (show Lg w w6 [(R1, #[.int .i64 n0, .int .i64 n1, .int .i64 n2, .int .i64 n3, .int .i64 n4, .int .i64 n5, .int .i64 n6, .bool n7], 31)] [(L6, H6, fun W => RsNew dvL 10 78 L6 H6 W a6 L), (L4, H4, fun W => RsNew dvL 10 78 L4 H4 W a4 l), (L3, H3, fun W => RsNew dvL 10 78 L3 H3 W aas7 L)] from HL5.out.made e6 f6 h (by rw [← e6, ← f6]; exact hn.solid))
  clear h hn e6 f6
  go_wp2_with fail
  refine ((eqDeviceS_same _ _ _ _ L _ (HL6.out.at (.head _)).ins (HL6.out.at (.tail _ (.tail _ (.head _)))).ins (by omega))).mono ?_
  rintro e w7 ⟨rfl, h⟩
  have HL7 := Lib.hid (show Lg w w7 [(R1, #[.int .i64 n0, .int .i64 n1, .int .i64 n2, .int .i64 n3, .int .i64 n4, .int .i64 n5, .int .i64 n6, .bool n7], 31)] [(L6, H6, fun W => RsNew dvL 10 78 L6 H6 W a6 L), (L4, H4, fun W => RsNew dvL 10 78 L4 H4 W a4 l), (L3, H3, fun W => RsNew dvL 10 78 L3 H3 W aas7 L)] from HL6.out.kept h)
  clear h
  go_wp2_with fail
  refine ((toDeviceS_new a cap l _ (HI.out.kept HL7.out.below) hl)).mono ?_
  rintro e w8 ⟨a8, rfl, hn, h⟩
  obtain ⟨L8, e8⟩ : ∃ x, w7.heap.size = x := ⟨_, rfl⟩
  obtain ⟨H8, f8⟩ : ∃ x, w8.heap.size = x := ⟨_, rfl⟩
  have qL8_R1 : R1 < L8 := Nat.lt_of_lt_of_eq (HL7.out.lt (.head _)) e8
  have qL8_H6 : H6 ≤ L8 := Nat.le_trans (HL7.out.hi (.head _)).2 (Nat.le_of_eq e8)
  have qL8_H4 : H4 ≤ L8 := Nat.le_trans (HL7.out.hi (.tail _ (.head _))).2 (Nat.le_of_eq e8)
  have qL8_H3 : H3 ≤ L8 := Nat.le_trans (HL7.out.hi (.tail _ (.tail _ (.head _)))).2 (Nat.le_of_eq e8)
  have qH8_L8 : L8 ≤ H8 := (by rw [← e8, ← f8]; exact h.size)
  have HL8 := Lib.hid (show Lg w w8 [(R1, #[.int .i64 n0, .int .i64 n1, .int .i64 n2, .int .i64 n3, .int .i64 n4, .int .i64 n5, .int .i64 n6, .bool n7], 31)] [(L8, H8, fun W => RsNew dvL 10 78 L8 H8 W a8 l), (L6, H6, fun W => RsNew dvL 10 78 L6 H6 W a6 L), (L4, H4, fun W => RsNew dvL 10 78 L4 H4 W a4 l), (L3, H3, fun W => RsNew dvL 10 78 L3 H3 W aas7 L)] from HL7.out.made e8 f8 h (by rw [← e8, ← f8]; exact hn.solid))
  clear h hn e8 f8
  go_wp2_with fail
  refine ((eqDeviceS_same _ _ _ _ l _ (HL8.out.at (.tail _ (.tail _ (.head _)))).ins (HL8.out.at (.head _)).ins hl)).mono ?_
  rintro e w9 ⟨rfl, h⟩
  have HL9 := Lib.hid (show Lg w w9 [(R1, #[.int .i64 n0, .int .i64 n1, .int .i64 n2, .int .i64 n3, .int .i64 n4, .int .i64 n5, .int .i64 n6, .bool n7], 31)] [(L8, H8, fun W => RsNew dvL 10 78 L8 H8 W a8 l), (L6, H6, fun W => RsNew dvL 10 78 L6 H6 W a6 L), (L4, H4, fun W => RsNew dvL 10 78 L4 H4 W a4 l), (L3, H3, fun W => RsNew dvL 10 78 L3 H3 W aas7 L)] from HL8.out.kept h)
  clear h
  go_wp2_with fail
  refine (markDvs_1 _ _ l _ (HL9.out.at (.tail _ (.tail _ (.head _)))) (by omega)).mono ?_
  rintro e w10 ⟨rfl, hn, ho⟩
  have HL10 := Lib.hid (show Lg w w10 [(R1, #[.int .i64 n0, .int .i64 n1, .int .i64 n2, .int .i64 n3, .int .i64 n4, .int .i64 n5, .int .i64 n6, .bool n7], 31)] [(L8, H8, fun W => RsNew dvL 10 78 L8 H8 W a8 l), (L6, H6, fun W => RsNew dvL 10 78 L6 H6 W a6 L), (L4, H4, fun W => RsNew dvL 10 78 L4 H4 W a4 (marksDv 1 l.length)), (L3, H3, fun W => RsNew dvL 10 78 L3 H3 W aas7 L)] from HL9.out.mark 2 rfl ho hn.solid (List.forall_mem_cons.2 ⟨.inl qL4_R1, (fun _ h => nomatch h)⟩) (List.forall_mem_cons.2 ⟨.inr qL8_H4, (List.forall_mem_cons.2 ⟨.inr qL6_H4, (List.forall_mem_cons.2 ⟨.inl qL4_H3, (fun _ h => nomatch h)⟩)⟩)⟩) rfl)
  clear hn ho
  go_wp2_with fail
  refine ((eqDeviceS_same _ _ _ _ L _ (HL10.out.at (.tail _ (.head _))).ins (HL10.out.at (.tail _ (.tail _ (.tail _ (.head _))))).ins (by omega))).mono ?_
  rintro e w11 ⟨rfl, h⟩
  have HL11 := Lib.hid (show Lg w w11 [(R1, #[.int .i64 n0, .int .i64 n1, .int .i64 n2, .int .i64 n3, .int .i64 n4, .int .i64 n5, .int .i64 n6, .bool n7], 31)] [(L8, H8, fun W => RsNew dvL 10 78 L8 H8 W a8 l), (L6, H6, fun W => RsNew dvL 10 78 L6 H6 W a6 L), (L4, H4, fun W => RsNew dvL 10 78 L4 H4 W a4 (marksDv 1 l.length)), (L3, H3, fun W => RsNew dvL 10 78 L3 H3 W aas7 L)] from HL10.out.kept h)
  clear h
  go_wp2_with fail
  refine (markDvs_1 _ _ L _ (HL11.out.at (.tail _ (.head _))) (by omega)).mono ?_
  rintro e w12 ⟨rfl, hn, ho⟩
  have HL12 := Lib.hid (show Lg w w12 [(R1, #[.int .i64 n0, .int .i64 n1, .int .i64 n2, .int .i64 n3, .int .i64 n4, .int .i64 n5, .int .i64 n6, .bool n7], 31)] [(L8, H8, fun W => RsNew dvL 10 78 L8 H8 W a8 l), (L6, H6, fun W => RsNew dvL 10 78 L6 H6 W a6 (marksDv 1 L.length)), (L4, H4, fun W => RsNew dvL 10 78 L4 H4 W a4 (marksDv 1 l.length)), (L3, H3, fun W => RsNew dvL 10 78 L3 H3 W aas7 L)] from HL11.out.mark 1 rfl ho hn.solid (List.forall_mem_cons.2 ⟨.inl qL6_R1, (fun _ h => nomatch h)⟩) (List.forall_mem_cons.2 ⟨.inr qL8_H6, (List.forall_mem_cons.2 ⟨.inl qL6_H4, (List.forall_mem_cons.2 ⟨.inl qL6_H3, (fun _ h => nomatch h)⟩)⟩)⟩) rfl)
  clear hn ho
  go_wp2_with fail
  refine ((heldDvs_1 _ _ L.length _ (HL12.out.at (.tail _ (.head _))) (by omega))).mono ?_
  rintro e w13 ⟨rfl, h⟩
  have HL13 := Lib.hid (show Lg w w13 [(R1, #[.int .i64 n0, .int .i64 n1, .int .i64 n2, .int .i64 n3, .int .i64 n4, .int .i64 n5, .int .i64 n6, .bool n7], 31)] [(L8, H8, fun W => RsNew dvL 10 78 L8 H8 W a8 l), (L6, H6, fun W => RsNew dvL 10 78 L6 H6 W a6 (marksDv 1 L.length)), (L4, H4, fun W => RsNew dvL 10 78 L4 H4 W a4 (marksDv 1 l.length)), (L3, H3, fun W => RsNew dvL 10 78 L3 H3 W aas7 L)] from HL12.out.kept h)
  clear h
  go_wp2_with fail
  have HKs8 := Lib.hid (show ∀ W, Below w13.heap.size w13 W → ((W.cell? ⟨R1, 0, none⟩ = some (.int .i64 n0) ∧ W.cell? ⟨R1, 1, none⟩ = some (.int .i64 n1) ∧ W.cell? ⟨R1, 2, none⟩ = some (.int .i64 n2) ∧ W.cell? ⟨R1, 3, none⟩ = some (.int .i64 n3) ∧ W.cell? ⟨R1, 4, none⟩ = some (.int .i64 n4) ∧ W.cell? ⟨R1, 5, none⟩ = some (.int .i64 n5) ∧ W.cell? ⟨R1, 6, none⟩ = some (.int .i64 n6) ∧ W.cell? ⟨R1, 7, none⟩ = some (.bool n7)) ∧ Below w13.heap.size w13 W) from fun W hW => by
    have hA := (hW.block R1 (HL13.out.lt (.head _))).trans (HL13.out.get (.head _))
    refine ⟨⟨?_, ?_, ?_, ?_, ?_, ?_, ?_, ?_⟩, hW⟩
    all_goals (rw [cell_of_row W R1 _ _ _ (0, 0) hA]; rfl))
  go_region_held3 (fun W => (W.cell? ⟨R1, 0, none⟩ = some (.int .i64 n0) ∧ W.cell? ⟨R1, 1, none⟩ = some (.int .i64 n1) ∧ W.cell? ⟨R1, 2, none⟩ = some (.int .i64 n2) ∧ W.cell? ⟨R1, 3, none⟩ = some (.int .i64 n3) ∧ W.cell? ⟨R1, 4, none⟩ = some (.int .i64 n4) ∧ W.cell? ⟨R1, 5, none⟩ = some (.int .i64 n5) ∧ W.cell? ⟨R1, 6, none⟩ = some (.int .i64 n6) ∧ W.cell? ⟨R1, 7, none⟩ = some (.bool n7)) ∧ Below w13.heap.size w13 W)
    (first | with_reducible exact HKs8.out _ (Below.refl _ _).drew | with_reducible exact HKs8.out _ bas8 | with_reducible exact HKs8.out _ bns82 | with_reducible exact HKs8.out _ bds82 | with_reducible exact HKs8.out _ bds81 | with_reducible exact HKs8.out _ bns81)
    (first
      | (go_at_call 10; refine (toDeviceS_new a cap l _ (HI.out.kept (HL13.out.below.trans (bns81.mono HL13.out.below.size))) hl).mono ?_; rintro e wds82 ⟨az, rfl, hnz, hz⟩; have bds82 : Below w13.heap.size w13 wds82 := bns81.trans (hz.mono bns81.size); have HZs8 := Lib.hid (hnz.ins); clear hnz)
      | (go_at_call 10; refine (toDeviceS_new a cap l _ (HI.out.kept HL13.out.below.drew) hl).mono ?_; rintro e wds81 ⟨az, rfl, hnz, hz⟩; have bds81 : Below w13.heap.size w13 wds81 := (Below.refl _ _).drew.trans (hz.mono (Nat.le_refl _)); have HZ0s8 := Lib.hid (hnz.ins); clear hnz)
      | (go_at_call 16; refine (HT _).out.mono ?_; rintro e wns82 ⟨rfl, hz2⟩; have bns82 : Below w13.heap.size w13 wns82 := bds81.trans (hz2.mono bds81.size); have HZs8 := Lib.hid (HZ0s8.out.kept hz2))
      | (go_at_call 16; refine (HT _).out.mono ?_; rintro e wns81 ⟨rfl, hz2⟩; have bns81 : Below w13.heap.size w13 wns81 := (Below.refl _ _).drew.trans (hz2.mono (Nat.le_refl _)))
      | (go_at_call 17; refine (HIM _ _ HZs8.out hl).out.mono ?_; rintro e was8 ⟨aas8, cas8, rfl, hna, hz3⟩; have HNs8 := Lib.hid (show RsNew dvL 10 78 w13.heap.size was8.heap.size was8 aas8 L from (by first | exact hna.wide bns82.size (Nat.le_refl _) | exact hna.wide bds82.size (Nat.le_refl _))); clear hna; have bas8 : Below w13.heap.size w13 was8 := (by first | exact bns82.trans (hz3.mono bns82.size) | exact bds82.trans (hz3.mono bds82.size))))
  obtain ⟨L14, e14⟩ : ∃ x, w13.heap.size = x := ⟨_, rfl⟩
  obtain ⟨H14, f14⟩ : ∃ x, was8.heap.size = x := ⟨_, rfl⟩
  have qL14_R1 : R1 < L14 := Nat.lt_of_lt_of_eq (HL13.out.lt (.head _)) e14
  have qL14_H8 : H8 ≤ L14 := Nat.le_trans (HL13.out.hi (.head _)).2 (Nat.le_of_eq e14)
  have qL14_H6 : H6 ≤ L14 := Nat.le_trans (HL13.out.hi (.tail _ (.head _))).2 (Nat.le_of_eq e14)
  have qL14_H4 : H4 ≤ L14 := Nat.le_trans (HL13.out.hi (.tail _ (.tail _ (.head _)))).2 (Nat.le_of_eq e14)
  have qL14_H3 : H3 ≤ L14 := Nat.le_trans (HL13.out.hi (.tail _ (.tail _ (.tail _ (.head _))))).2 (Nat.le_of_eq e14)
  have qH14_L14 : L14 ≤ H14 := (by rw [← e14, ← f14]; exact bas8.size)
  have HL14 := Lib.hid (show Lg w was8 [(R1, #[.int .i64 n0, .int .i64 n1, .int .i64 n2, .int .i64 n3, .int .i64 n4, .int .i64 n5, .int .i64 n6, .bool n7], 31)] [(L14, H14, fun W => RsNew dvL 10 78 L14 H14 W aas8 L), (L8, H8, fun W => RsNew dvL 10 78 L8 H8 W a8 l), (L6, H6, fun W => RsNew dvL 10 78 L6 H6 W a6 (marksDv 1 L.length)), (L4, H4, fun W => RsNew dvL 10 78 L4 H4 W a4 (marksDv 1 l.length)), (L3, H3, fun W => RsNew dvL 10 78 L3 H3 W aas7 L)] from HL13.out.made e14 f14 bas8 (by rw [← e14, ← f14]; exact HNs8.out.solid))
  go_wp2_with fail
  refine ((eqDeviceS_same _ _ _ _ L _ (HL14.out.at (.head _)).ins (HL14.out.at (.tail _ (.tail _ (.tail _ (.tail _ (.head _)))))).ins (by omega))).mono ?_
  rintro e w15 ⟨rfl, h⟩
  have HL15 := Lib.hid (show Lg w w15 [(R1, #[.int .i64 n0, .int .i64 n1, .int .i64 n2, .int .i64 n3, .int .i64 n4, .int .i64 n5, .int .i64 n6, .bool n7], 31)] [(L14, H14, fun W => RsNew dvL 10 78 L14 H14 W aas8 L), (L8, H8, fun W => RsNew dvL 10 78 L8 H8 W a8 l), (L6, H6, fun W => RsNew dvL 10 78 L6 H6 W a6 (marksDv 1 L.length)), (L4, H4, fun W => RsNew dvL 10 78 L4 H4 W a4 (marksDv 1 l.length)), (L3, H3, fun W => RsNew dvL 10 78 L3 H3 W aas7 L)] from HL14.out.kept h)
  clear h
  go_wp2_with fail
  refine ((heldDvs_1 _ _ L.length _ (HL15.out.at (.tail _ (.tail _ (.head _)))) (by omega))).mono ?_
  rintro e w16 ⟨rfl, h⟩
  have HL16 := Lib.hid (show Lg w w16 [(R1, #[.int .i64 n0, .int .i64 n1, .int .i64 n2, .int .i64 n3, .int .i64 n4, .int .i64 n5, .int .i64 n6, .bool n7], 31)] [(L14, H14, fun W => RsNew dvL 10 78 L14 H14 W aas8 L), (L8, H8, fun W => RsNew dvL 10 78 L8 H8 W a8 l), (L6, H6, fun W => RsNew dvL 10 78 L6 H6 W a6 (marksDv 1 L.length)), (L4, H4, fun W => RsNew dvL 10 78 L4 H4 W a4 (marksDv 1 l.length)), (L3, H3, fun W => RsNew dvL 10 78 L3 H3 W aas7 L)] from HL15.out.kept h)
  clear h
  go_wp2_with fail
  go_ret
  exact ⟨rfl, HL16.out.below⟩

set_option maxRecDepth 100000 in
theorem lifted (os : Os) (started : os.Started) (H : Type) (enc : TypeId × Value → H) :
    ReturnsInHanded {} Try.checked os 4 .any (Rows.fnExactDeviceHearSpec.pre6 enc Try.prog Try.f4 Rows.fnExactDeviceHearRow.domain false) (Rows.fnExactDeviceHearSpec.post enc Try.prog Try.f4 false true false false) := by
  refine returnsInHanded_of_change (C := Try.checked) own started (by kernel_rfl) Try.func4
    (ChangeSpec.witness6 (enc := enc) (C := Try.checked) false ⟨#[], #[.slice none 0 0, .int .i64 0, .agg #[.int .i64 0, .int .i64 0, .int .i64 0, .int .i64 0, .int .i64 0, .int .i64 0, .int .i64 0, .bool false]], []⟩ 8 (by kernel_rfl) (by kernel_rfl) (by kernel_rfl) (by kernel_rfl)) ?_
  intro W base args ds gs before hval0 hW hcnd _
  have hval : ∀ (j : Nat) t v, Try.f4.params[j]? = some t → args[j]? = some v → Value.okWide Try.prog W .any base t v := hval0
  have hW' := hW
  obtain ⟨p, q, hA0, hV, rfl, hfz, hnd⟩ := hW
  have hlt := DataW.TrodAll.lt hA0
  have hA : DataW.TrodAll enc Try.prog W 0 (fun _ => true) true Try.f4.params.toList args.toList ds p := hA0
  rw [Try.params4] at hA hval
  obtain ⟨v0, vs0, d0, ds0, p0, q0, hargs, rfl, rfl, h0, r0⟩ := trodAll_cons hA
  obtain ⟨v1, vs1, d1, ds1, p1, q1, rfl, rfl, rfl, h1, r1⟩ := trodAll_cons r0
  obtain ⟨v2, vs2, d2, ds2, p2, q2, rfl, rfl, rfl, h2, r2⟩ := trodAll_cons r1
  obtain ⟨rfl, rfl, rfl⟩ := trodAll_nil r2
  obtain rfl : args = #[v0, v1, v2] := by cases args; simp_all
  obtain ⟨rfl, rfl⟩ := trodVars_none hV
  have l0 : ∀ x ∈ p0, x.block < W.heap.size := fun x hx => hlt x (by simp [hx])
  have l1 : ∀ x ∈ p1, x.block < W.heap.size := fun x hx => hlt x (by simp [hx])
  have l2 : ∀ x ∈ p2, x.block < W.heap.size := fun x hx => hlt x (by simp [hx])
  have k0 := open_Dvs (hval 0 22 v0 rfl rfl) h0
  have k1 := open_I64 Try.underlying2 (hval 1 2 v1 rfl rfl) h1
  have k2 := open_Nm (hval 2 31 v2 rfl rfl) h2
  clear hA0 hval0
  simp only [List.append_nil] at hW'
  refine (walk W v0 k0 v1 k1 v2 k2).mono fun e W' ⟨he, hg⟩ => ?_
  subst he
  exact ⟨_, rfl, _, _, _, [], _, [], hW', (trodAll_cons_mk (shut_bool Try.underlying4 _) trodAll_mk0), (trodAll_cons_mk (Below.trod (by kernel_rfl) (by kernel_rfl) (of_decide_eq_true (by kernel_rfl)) h0 hg l0) (trodAll_cons_mk (Below.trod (by kernel_rfl) (by kernel_rfl) (of_decide_eq_true (by kernel_rfl)) h1 hg l1) (trodAll_cons_mk (Below.trod (by kernel_rfl) (by kernel_rfl) (of_decide_eq_true (by kernel_rfl)) h2 hg l2) trodAll_mk0))), rfl, hg.frame _, fun h => by cases h⟩

theorem over : Rows.fnExactDeviceHearRow.holds Try.pinned (OpenSpec.ofChange Rows.fnExactDeviceHearSpec) :=
  OpenClaim.holds_of_wide 4 Try.f4 rfl rfl rfl rfl rfl rfl rfl ⟨rfl, rfl, rfl, rfl, rfl⟩ rfl rfl rfl rfl rfl (by kernel_rfl) Try.func4 (by kernel_rfl)
    (of_decide_eq_true (by kernel_rfl)) (by unfold Func.isWrapper; first | (rw [if_pos (by decide +kernel)]; kernel_rfl) | (rw [if_neg (by decide +kernel)]; exact ⟨rfl, rfl⟩))
    (fun os started H enc _ => lifted os started H enc)

/-- ████ THE STATEMENT ████ -/
theorem proved : Rows.FnExactDeviceHearSaid :=
  over
#print axioms proved
end Go.Proofs.Ytpolpkheaibonaa.fnExactDeviceHear
