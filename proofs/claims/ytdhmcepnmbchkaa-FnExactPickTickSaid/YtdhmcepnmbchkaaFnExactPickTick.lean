/- For every Picker the program's PickTick answers as the model's PickTick does, in memory of its own, and the Picker stays as it was. -/
import Derived.Test.YtdhmcepnmbchkaaRows
import Derived.Test.YtdhmcepnmbchkaaPickTo
import Derived.Test.YtdhmcepnmbchkaaPickTick
import Derived.WalkKit
import Derived.ProofKit
import Derived.OpenShut
import Derived.ShutString
import Derived.ChangeOld
import Derived.Below
import Derived.Carry
namespace Go.Proofs.Ytdhmcepnmbchkaa.fnExactPickTick
open Go.ChangeShapes Go.WideShapes Go.ChangeAt Go.RowKit
open Go.ChangeMaps (open_string shut_string)
set_option linter.unusedVariables false

theorem own : ownKnob Try.prog.godebug = none := by kernel_rfl

set_option maxRecDepth 100000 in
set_option maxHeartbeats 100000000 in
theorem walk (w : World) (v0 : Value) (k0 : IsPk w v0) :
    Calls Try.prog 10 #[v0] w fun e w' => e = .returned (.bool true) ∧ Below w.heap.size w w' := by
  obtain ⟨a, c, r, b, d, q, rfl, h1, h2, hok, hr, hq⟩ := k0
  have HS := fun W => Lib.hid (szPicker_any a b c d r.length q.length W hr hq)
  have HI1 := Lib.hid h1
  have HI2 := Lib.hid h2
  clear hok h1 h2
  generalize hN : r.length = N at *
  generalize hM : q.length = M at *
  have HN := Lib.hid hN
  have HM := Lib.hid hM
  clear hN hM
  go_enter Try.func10, Try.ntmps10
  go_wp2_with (first
    | (refine wpList_box_h rfl 62 (.tmp 0) rfl #[.slice a N c, .slice b M d] rfl ?_; intro w1 R1 e1 g1 b1; have HL1 := Lib.hid (show Lg w w1 [(R1, #[.slice a N c, .slice b M d], 62)] [] from (Lg.first w).box e1 g1 b1); clear g1 b1 e1)
    | (refine wpList_load_at rfl 62 (.tmp 1) rfl (R1) 0 rfl 62 #[.slice a N c, .slice b M d] (0, 0) (HL1.out.get (.head _)) [.slice a N c, .slice b M d] rfl _ Try.underlying62 rfl (by kernel_rfl) ?_))
  refine ((HS _).out).mono ?_
  rintro e w2 ⟨m, rfl, hm, h⟩
  have HL2 := Lib.hid (show Lg w w2 [(R1, #[.slice a N c, .slice b M d], 62)] [] from HL1.out.kept h)
  clear h
  by_cases hneg : m < 0
  · have hd : decide (m < 0) = true := decide_eq_true hneg
    go_wp2_with fail
    go_ret
    exact ⟨rfl, HL2.out.below⟩
  have hd : decide (m < 0) = false := decide_eq_false hneg
  obtain ⟨hN6, hM6⟩ := hm (by omega)
  clear hm hneg HS
  have HT := fun W hW hW' => Lib.hid (show Calls Try.prog 43 #[.agg #[.slice a N c, .slice b M d]] W fun e w' => ∃ a' b', e = .returned (.agg #[.slice a' N N, .slice b' M M]) ∧ PkNew W.heap.size w'.heap.size w' a' b' r q ∧ Below W.heap.size W w' from by
    have := toPicker_new a b c d r q W hW hW' (by rw [HN.out]; omega) (by rw [HM.out]; omega)
    rwa [HN.out, HM.out] at this)
  have HE := fun W a b a' b' c d c' d' (h1 : NumsIn W a r) (h2 : RsIn hdL 3 W b q) (h3 : NumsIn W a' r) (h4 : RsIn hdL 3 W b' q) => Lib.hid (show Calls Try.prog 45 #[.agg #[.slice a N c, .slice b M d], .agg #[.slice a' N c', .slice b' M d']] W fun e w' => e = .returned (.bool true) ∧ Below W.heap.size W w' from by
    have := eqPicker_same a b a' b' c d c' d' r q W h1 h2 h3 h4 (by rw [HN.out]; omega) (by rw [HM.out]; omega)
    rwa [HN.out, HM.out] at this)
  have HP := fun W a b c d h1 h2 => Lib.hid (specPickTick_any a b c d r q W h1 h2 (by rw [HN.out]; omega) (by rw [HM.out]; omega))
  have HQ := fun W a b d h1 h2 => Lib.hid (implPickTick_any a b N d r q W h1 h2 (by rw [HN.out]; omega) (by rw [HM.out]; omega) (by rw [HN.out]; omega))
  have hTR : (tickR r q).length ≤ 1048576 := by
    have := HN.out
    unfold tickR
    split
    · omega
    · exact Nat.zero_le _
  have hTV : (tickV r q).length ≤ 1048576 := by
    have := HM.out
    unfold tickV
    split
    · rw [tickH_length]; omega
    · exact Nat.zero_le _
  generalize tickR r q = TR at *
  generalize tickV r q = TV at *
  rw [HN.out, HM.out] at HP HQ
  have g1 : decide (((1 + N + 3 * M : Nat) : Int) < 0) = false := decide_eq_false (by omega)
  have g2 : decide (((1 + TR.length + 3 * TV.length : Nat) : Int) < 0) = false := decide_eq_false (by omega)
  have g3 : (((1 + TR.length + 3 * TV.length : Nat) : Int) != ((1 + TR.length + 3 * TV.length : Nat) : Int)) = false := by simp
  have HM1 := fun W a b c d lo hi k hh => Lib.hid (show Calls Try.prog 48 #[.agg #[.slice a N c, .slice b M d], .int .i64 1] W fun e w' => e = .returned (.int .i64 ((1 + N + 3 * M : Nat) : Int)) ∧ PkNew lo hi w' a b (nmarks 1 N) (marksHd (1 + N) M) ∧ Out lo hi W w' from by
    have := markPicker_1 (lo := lo) (hi := hi) a b c d r q W k hh (by rw [HN.out]; omega) (by rw [HM.out]; omega)
    rwa [HN.out, HM.out] at this)
  go_wp2_with (first
    | (refine wpList_load_at rfl 62 (.tmp 1) rfl (R1) 0 rfl 62 #[.slice a N c, .slice b M d] (0, 0) (HL2.out.get (.head _)) [.slice a N c, .slice b M d] rfl _ Try.underlying62 rfl (by kernel_rfl) ?_))
  refine ((HT _ (HI1.out.kept HL2.out.below) (HI2.out.kept HL2.out.below)).out).mono ?_
  rintro e w3 ⟨a3, b3, rfl, hn, h⟩
  obtain ⟨L3, e3⟩ : ∃ x, w2.heap.size = x := ⟨_, rfl⟩
  obtain ⟨H3, f3⟩ : ∃ x, w3.heap.size = x := ⟨_, rfl⟩
  have qL3_R1 : R1 < L3 := Nat.lt_of_lt_of_eq (HL2.out.lt (.head _)) e3
  have qH3_L3 : L3 ≤ H3 := (by rw [← e3, ← f3]; exact h.size)
  have HL3 := Lib.hid (show Lg w w3 [(R1, #[.slice a N c, .slice b M d], 62)] [(L3, H3, fun W => PkNew L3 H3 W a3 b3 r q)] from HL2.out.made e3 f3 h (by rw [← e3, ← f3]; exact hn.solid))
  clear h hn e3 f3
  go_wp2_with fail
  refine ((HP _ _ _ _ _ (HL3.out.at (.head _)).nums (HL3.out.at (.head _)).ins).out).mono ?_
  rintro e w4 ⟨a4, c4, b4, d4, rfl, hn, h⟩
  obtain ⟨L4, e4⟩ : ∃ x, w3.heap.size = x := ⟨_, rfl⟩
  obtain ⟨H4, f4⟩ : ∃ x, w4.heap.size = x := ⟨_, rfl⟩
  have qL4_R1 : R1 < L4 := Nat.lt_of_lt_of_eq (HL3.out.lt (.head _)) e4
  have qL4_H3 : H3 ≤ L4 := Nat.le_trans (HL3.out.hi (.head _)).2 (Nat.le_of_eq e4)
  have qH4_L4 : L4 ≤ H4 := (by rw [← e4, ← f4]; exact h.size)
  have HL4 := Lib.hid (show Lg w w4 [(R1, #[.slice a N c, .slice b M d], 62)] [(L4, H4, fun W => PkNew L4 H4 W a4 b4 TR TV), (L3, H3, fun W => PkNew L3 H3 W a3 b3 r q)] from HL3.out.made e4 f4 h (by rw [← e4, ← f4]; exact hn.solid))
  clear h hn e4 f4
  go_wp2_with (first
    | (refine wpList_alloc_h rfl 67 rfl (.agg #[.slice none 0 0, .slice none 0 0]) (by kernel_rfl) #[.slice none 0 0, .slice none 0 0] rfl ?_; intro w5 R5 e5 g5 b5; have qR5_R1 : R1 < R5 := Nat.lt_of_lt_of_eq (HL4.out.lt (.head _)) e5; have qR5_H4 : H4 ≤ R5 := Nat.le_trans (HL4.out.hi (.head _)).2 (Nat.le_of_eq e5); have qR5_H3 : H3 ≤ R5 := Nat.le_trans (HL4.out.hi (.tail _ (.head _))).2 (Nat.le_of_eq e5); have HL5 := Lib.hid (show Lg w w5 [(R5, #[.slice none 0 0, .slice none 0 0], 67), (R1, #[.slice a N c, .slice b M d], 62)] [(L4, H4, fun W => PkNew L4 H4 W a4 b4 TR TV), (L3, H3, fun W => PkNew L3 H3 W a3 b3 r q)] from HL4.out.box e5 g5 b5); clear g5 b5 e5)
    | (refine wpList_put_at rfl 67 (.tmp 4) (.tmp 18) rfl rfl (R5) 0 rfl (.agg #[.slice a4 TR.length c4, .slice b4 TV.length d4]) rfl #[.slice a4 TR.length c4, .slice b4 TV.length d4] rfl 67 #[.slice none 0 0, .slice none 0 0] #[.slice a4 TR.length c4, .slice b4 TV.length d4] (HL5.out.get (.head _)) (by kernel_rfl) (by kernel_rfl) (by kernel_rfl) (by kernel_rfl) ?_; intro w6 g6 o6; have HL6 := Lib.hid (show Lg w w6 [(R5, #[.slice a4 TR.length c4, .slice b4 TV.length d4], 67), (R1, #[.slice a N c, .slice b M d], 62)] [(L4, H4, fun W => PkNew L4 H4 W a4 b4 TR TV), (L3, H3, fun W => PkNew L3 H3 W a3 b3 r q)] from HL5.out.put 0 rfl g6 o6 (List.forall_mem_cons.2 ⟨Nat.ne_of_lt qR5_R1, (fun _ h => nomatch h)⟩) (List.forall_mem_cons.2 ⟨.inl qR5_H4, (List.forall_mem_cons.2 ⟨.inl qR5_H3, (fun _ h => nomatch h)⟩)⟩) rfl); clear g6 o6)
    | (refine wpList_load_at rfl 62 (.tmp 1) rfl (R1) 0 rfl 62 #[.slice a N c, .slice b M d] (0, 0) (HL6.out.get (.tail _ (.head _))) [.slice a N c, .slice b M d] rfl _ Try.underlying62 rfl (by kernel_rfl) ?_))
  refine ((HT _ (HI1.out.kept HL6.out.below) (HI2.out.kept HL6.out.below)).out).mono ?_
  rintro e w7 ⟨a7, b7, rfl, hn, h⟩
  obtain ⟨L7, e7⟩ : ∃ x, w6.heap.size = x := ⟨_, rfl⟩
  obtain ⟨H7, f7⟩ : ∃ x, w7.heap.size = x := ⟨_, rfl⟩
  have qL7_R5 : R5 < L7 := Nat.lt_of_lt_of_eq (HL6.out.lt (.head _)) e7
  have qL7_R1 : R1 < L7 := Nat.lt_of_lt_of_eq (HL6.out.lt (.tail _ (.head _))) e7
  have qL7_H4 : H4 ≤ L7 := Nat.le_trans (HL6.out.hi (.head _)).2 (Nat.le_of_eq e7)
  have qL7_H3 : H3 ≤ L7 := Nat.le_trans (HL6.out.hi (.tail _ (.head _))).2 (Nat.le_of_eq e7)
  have qH7_L7 : L7 ≤ H7 := (by rw [← e7, ← f7]; exact h.size)
  have HL7 := Lib.hid (show Lg w w7 [(R5, #[.slice a4 TR.length c4, .slice b4 TV.length d4], 67), (R1, #[.slice a N c, .slice b M d], 62)] [(L7, H7, fun W => PkNew L7 H7 W a7 b7 r q), (L4, H4, fun W => PkNew L4 H4 W a4 b4 TR TV), (L3, H3, fun W => PkNew L3 H3 W a3 b3 r q)] from HL6.out.made e7 f7 h (by rw [← e7, ← f7]; exact hn.solid))
  clear h hn e7 f7
  go_wp2_with (first
    | (refine wpList_alloc_h rfl 67 rfl (.agg #[.slice none 0 0, .slice none 0 0]) (by kernel_rfl) #[.slice none 0 0, .slice none 0 0] rfl ?_; intro w8 R8 e8 g8 b8; have qR8_R5 : R5 < R8 := Nat.lt_of_lt_of_eq (HL7.out.lt (.head _)) e8; have qR8_R1 : R1 < R8 := Nat.lt_of_lt_of_eq (HL7.out.lt (.tail _ (.head _))) e8; have qR8_H7 : H7 ≤ R8 := Nat.le_trans (HL7.out.hi (.head _)).2 (Nat.le_of_eq e8); have qR8_H4 : H4 ≤ R8 := Nat.le_trans (HL7.out.hi (.tail _ (.head _))).2 (Nat.le_of_eq e8); have qR8_H3 : H3 ≤ R8 := Nat.le_trans (HL7.out.hi (.tail _ (.tail _ (.head _)))).2 (Nat.le_of_eq e8); have HL8 := Lib.hid (show Lg w w8 [(R8, #[.slice none 0 0, .slice none 0 0], 67), (R5, #[.slice a4 TR.length c4, .slice b4 TV.length d4], 67), (R1, #[.slice a N c, .slice b M d], 62)] [(L7, H7, fun W => PkNew L7 H7 W a7 b7 r q), (L4, H4, fun W => PkNew L4 H4 W a4 b4 TR TV), (L3, H3, fun W => PkNew L3 H3 W a3 b3 r q)] from HL7.out.box e8 g8 b8); clear g8 b8 e8)
    | (refine wpList_put_at rfl 67 (.tmp 5) (.tmp 20) rfl rfl (R8) 0 rfl (.agg #[.slice a7 N N, .slice b7 M M]) rfl #[.slice a7 N N, .slice b7 M M] rfl 67 #[.slice none 0 0, .slice none 0 0] #[.slice a7 N N, .slice b7 M M] (HL8.out.get (.head _)) (by kernel_rfl) (by kernel_rfl) (by kernel_rfl) (by kernel_rfl) ?_; intro w9 g9 o9; have HL9 := Lib.hid (show Lg w w9 [(R8, #[.slice a7 N N, .slice b7 M M], 67), (R5, #[.slice a4 TR.length c4, .slice b4 TV.length d4], 67), (R1, #[.slice a N c, .slice b M d], 62)] [(L7, H7, fun W => PkNew L7 H7 W a7 b7 r q), (L4, H4, fun W => PkNew L4 H4 W a4 b4 TR TV), (L3, H3, fun W => PkNew L3 H3 W a3 b3 r q)] from HL8.out.put 0 rfl g9 o9 (List.forall_mem_cons.2 ⟨Nat.ne_of_lt qR8_R5, (List.forall_mem_cons.2 ⟨Nat.ne_of_lt qR8_R1, (fun _ h => nomatch h)⟩)⟩) (List.forall_mem_cons.2 ⟨.inl qR8_H7, (List.forall_mem_cons.2 ⟨.inl qR8_H4, (List.forall_mem_cons.2 ⟨.inl qR8_H3, (fun _ h => nomatch h)⟩)⟩)⟩) rfl); clear g9 o9)
    | (refine wpList_load_at rfl 67 (.tmp 5) rfl (R8) 0 rfl 67 #[.slice a7 N N, .slice b7 M M] (0, 0) (HL9.out.get (.head _)) [.slice a7 N N, .slice b7 M M] rfl _ Try.underlying67 rfl (by kernel_rfl) ?_))
  refine ((HQ _ _ _ _ (HL9.out.at (.head _)).nums (HL9.out.at (.head _)).ins).out).mono ?_
  rintro e w10 ⟨a10, c10, b10, d10, rfl, hn, h⟩
  obtain ⟨L10, e10⟩ : ∃ x, w9.heap.size = x := ⟨_, rfl⟩
  obtain ⟨H10, f10⟩ : ∃ x, w10.heap.size = x := ⟨_, rfl⟩
  have qL10_R8 : R8 < L10 := Nat.lt_of_lt_of_eq (HL9.out.lt (.head _)) e10
  have qL10_R5 : R5 < L10 := Nat.lt_of_lt_of_eq (HL9.out.lt (.tail _ (.head _))) e10
  have qL10_R1 : R1 < L10 := Nat.lt_of_lt_of_eq (HL9.out.lt (.tail _ (.tail _ (.head _)))) e10
  have qL10_H7 : H7 ≤ L10 := Nat.le_trans (HL9.out.hi (.head _)).2 (Nat.le_of_eq e10)
  have qL10_H4 : H4 ≤ L10 := Nat.le_trans (HL9.out.hi (.tail _ (.head _))).2 (Nat.le_of_eq e10)
  have qL10_H3 : H3 ≤ L10 := Nat.le_trans (HL9.out.hi (.tail _ (.tail _ (.head _)))).2 (Nat.le_of_eq e10)
  have qH10_L10 : L10 ≤ H10 := (by rw [← e10, ← f10]; exact h.size)
  have HL10 := Lib.hid (show Lg w w10 [(R8, #[.slice a7 N N, .slice b7 M M], 67), (R5, #[.slice a4 TR.length c4, .slice b4 TV.length d4], 67), (R1, #[.slice a N c, .slice b M d], 62)] [(L10, H10, fun W => PkNew L10 H10 W a10 b10 TR TV), (L7, H7, fun W => PkNew L7 H7 W a7 b7 r q), (L4, H4, fun W => PkNew L4 H4 W a4 b4 TR TV), (L3, H3, fun W => PkNew L3 H3 W a3 b3 r q)] from HL9.out.made e10 f10 h (by rw [← e10, ← f10]; exact hn.solid))
  clear h hn e10 f10
  go_wp2_with (first
    | (refine wpList_alloc_h rfl 67 rfl (.agg #[.slice none 0 0, .slice none 0 0]) (by kernel_rfl) #[.slice none 0 0, .slice none 0 0] rfl ?_; intro w11 R11 e11 g11 b11; have qR11_R8 : R8 < R11 := Nat.lt_of_lt_of_eq (HL10.out.lt (.head _)) e11; have qR11_R5 : R5 < R11 := Nat.lt_of_lt_of_eq (HL10.out.lt (.tail _ (.head _))) e11; have qR11_R1 : R1 < R11 := Nat.lt_of_lt_of_eq (HL10.out.lt (.tail _ (.tail _ (.head _)))) e11; have qR11_H10 : H10 ≤ R11 := Nat.le_trans (HL10.out.hi (.head _)).2 (Nat.le_of_eq e11); have qR11_H7 : H7 ≤ R11 := Nat.le_trans (HL10.out.hi (.tail _ (.head _))).2 (Nat.le_of_eq e11); have qR11_H4 : H4 ≤ R11 := Nat.le_trans (HL10.out.hi (.tail _ (.tail _ (.head _)))).2 (Nat.le_of_eq e11); have qR11_H3 : H3 ≤ R11 := Nat.le_trans (HL10.out.hi (.tail _ (.tail _ (.tail _ (.head _))))).2 (Nat.le_of_eq e11); have HL11 := Lib.hid (show Lg w w11 [(R11, #[.slice none 0 0, .slice none 0 0], 67), (R8, #[.slice a7 N N, .slice b7 M M], 67), (R5, #[.slice a4 TR.length c4, .slice b4 TV.length d4], 67), (R1, #[.slice a N c, .slice b M d], 62)] [(L10, H10, fun W => PkNew L10 H10 W a10 b10 TR TV), (L7, H7, fun W => PkNew L7 H7 W a7 b7 r q), (L4, H4, fun W => PkNew L4 H4 W a4 b4 TR TV), (L3, H3, fun W => PkNew L3 H3 W a3 b3 r q)] from HL10.out.box e11 g11 b11); clear g11 b11 e11)
    | (refine wpList_put_at rfl 67 (.tmp 6) (.tmp 22) rfl rfl (R11) 0 rfl (.agg #[.slice a10 TR.length c10, .slice b10 TV.length d10]) rfl #[.slice a10 TR.length c10, .slice b10 TV.length d10] rfl 67 #[.slice none 0 0, .slice none 0 0] #[.slice a10 TR.length c10, .slice b10 TV.length d10] (HL11.out.get (.head _)) (by kernel_rfl) (by kernel_rfl) (by kernel_rfl) (by kernel_rfl) ?_; intro w12 g12 o12; have HL12 := Lib.hid (show Lg w w12 [(R11, #[.slice a10 TR.length c10, .slice b10 TV.length d10], 67), (R8, #[.slice a7 N N, .slice b7 M M], 67), (R5, #[.slice a4 TR.length c4, .slice b4 TV.length d4], 67), (R1, #[.slice a N c, .slice b M d], 62)] [(L10, H10, fun W => PkNew L10 H10 W a10 b10 TR TV), (L7, H7, fun W => PkNew L7 H7 W a7 b7 r q), (L4, H4, fun W => PkNew L4 H4 W a4 b4 TR TV), (L3, H3, fun W => PkNew L3 H3 W a3 b3 r q)] from HL11.out.put 0 rfl g12 o12 (List.forall_mem_cons.2 ⟨Nat.ne_of_lt qR11_R8, (List.forall_mem_cons.2 ⟨Nat.ne_of_lt qR11_R5, (List.forall_mem_cons.2 ⟨Nat.ne_of_lt qR11_R1, (fun _ h => nomatch h)⟩)⟩)⟩) (List.forall_mem_cons.2 ⟨.inl qR11_H10, (List.forall_mem_cons.2 ⟨.inl qR11_H7, (List.forall_mem_cons.2 ⟨.inl qR11_H4, (List.forall_mem_cons.2 ⟨.inl qR11_H3, (fun _ h => nomatch h)⟩)⟩)⟩)⟩) rfl); clear g12 o12)
    | (refine wpList_load_at rfl 67 (.tmp 6) rfl (R11) 0 rfl 67 #[.slice a10 TR.length c10, .slice b10 TV.length d10] (0, 0) (HL12.out.get (.head _)) [.slice a10 TR.length c10, .slice b10 TV.length d10] rfl _ Try.underlying67 rfl (by kernel_rfl) ?_)
    | (refine wpList_load_at rfl 67 (.tmp 4) rfl (R5) 0 rfl 67 #[.slice a4 TR.length c4, .slice b4 TV.length d4] (0, 0) (HL12.out.get (.tail _ (.tail _ (.head _)))) [.slice a4 TR.length c4, .slice b4 TV.length d4] rfl _ Try.underlying67 rfl (by kernel_rfl) ?_))
  refine (eqPicker_same _ _ _ _ _ _ _ _ TR TV _ (HL12.out.at (.head _)).nums (HL12.out.at (.head _)).ins (HL12.out.at (.tail _ (.tail _ (.head _)))).nums (HL12.out.at (.tail _ (.tail _ (.head _)))).ins hTR hTV).mono ?_
  rintro e w13 ⟨rfl, h⟩
  have HL13 := Lib.hid (show Lg w w13 [(R11, #[.slice a10 TR.length c10, .slice b10 TV.length d10], 67), (R8, #[.slice a7 N N, .slice b7 M M], 67), (R5, #[.slice a4 TR.length c4, .slice b4 TV.length d4], 67), (R1, #[.slice a N c, .slice b M d], 62)] [(L10, H10, fun W => PkNew L10 H10 W a10 b10 TR TV), (L7, H7, fun W => PkNew L7 H7 W a7 b7 r q), (L4, H4, fun W => PkNew L4 H4 W a4 b4 TR TV), (L3, H3, fun W => PkNew L3 H3 W a3 b3 r q)] from HL12.out.kept h)
  clear h
  go_wp2_with fail
  have HK := Lib.hid (show ∀ W, Below w13.heap.size w13 W → (((W.cell? ⟨R8, 0, none⟩ = some (.slice a7 N N) ∧ W.cell? ⟨R8, 1, none⟩ = some (.slice b7 M M)) ∧ (W.cell? ⟨R1, 0, none⟩ = some (.slice a N c) ∧ W.cell? ⟨R1, 1, none⟩ = some (.slice b M d))) ∧ Below w13.heap.size w13 W) from fun W hW => by
    have hX := (hW.block R8 (HL13.out.lt (.tail _ (.head _)))).trans (HL13.out.get (.tail _ (.head _)))
    have hA := (hW.block R1 (HL13.out.lt (.tail _ (.tail _ (.tail _ (.head _)))))).trans (HL13.out.get (.tail _ (.tail _ (.tail _ (.head _)))))
    refine ⟨⟨⟨?_, ?_⟩, ?_, ?_⟩, hW⟩
    all_goals first | (rw [cell_of_row W R8 _ _ _ (0, 0) hX]; rfl) | (rw [cell_of_row W R1 _ _ _ (0, 0) hA]; rfl))
  go_region_held3 (fun W => ((W.cell? ⟨R8, 0, none⟩ = some (.slice a7 N N) ∧ W.cell? ⟨R8, 1, none⟩ = some (.slice b7 M M)) ∧ (W.cell? ⟨R1, 0, none⟩ = some (.slice a N c) ∧ W.cell? ⟨R1, 1, none⟩ = some (.slice b M d))) ∧ Below w13.heap.size w13 W)
    (first | with_reducible exact HK.out _ (Below.refl _ _).drew | with_reducible exact HK.out _ bz1 | with_reducible exact HK.out _ bz2)
    (first
      | (go_at_call 43; refine (HT _ (HI1.out.kept HL13.out.below.drew) (HI2.out.kept HL13.out.below.drew)).out.mono ?_; rintro e wz1 ⟨az, bz, rfl, hnz, hz1⟩; have bz1 : Below w13.heap.size w13 wz1 := (Below.refl _ _).drew.trans (hz1.mono (Nat.le_refl _)); have HZ := Lib.hid hnz; clear hnz)
      | (go_at_call 45; refine (HE _ _ _ _ _ _ _ _ _ ((HL13.out.at (.tail _ (.head _))).kept bz1).nums ((HL13.out.at (.tail _ (.head _))).kept bz1).ins HZ.out.nums HZ.out.ins).out.mono ?_; rintro e wz2 ⟨rfl, hz2⟩; have bz2 : Below w13.heap.size w13 wz2 := bz1.trans (hz2.mono bz1.size)))
  have HL14 := Lib.hid (show Lg w wz2 [(R11, #[.slice a10 TR.length c10, .slice b10 TV.length d10], 67), (R8, #[.slice a7 N N, .slice b7 M M], 67), (R5, #[.slice a4 TR.length c4, .slice b4 TV.length d4], 67), (R1, #[.slice a N c, .slice b M d], 62)] [(L10, H10, fun W => PkNew L10 H10 W a10 b10 TR TV), (L7, H7, fun W => PkNew L7 H7 W a7 b7 r q), (L4, H4, fun W => PkNew L4 H4 W a4 b4 TR TV), (L3, H3, fun W => PkNew L3 H3 W a3 b3 r q)] from HL13.out.kept bz2)
  go_wp2_with (first
    | (refine wpList_load_at rfl 67 (.tmp 5) rfl (R8) 0 rfl 67 #[.slice a7 N N, .slice b7 M M] (0, 0) (HL14.out.get (.tail _ (.head _))) [.slice a7 N N, .slice b7 M M] rfl _ Try.underlying67 rfl (by kernel_rfl) ?_))
  refine ((HM1 _ _ _ _ _ L7 H7 (HL14.out.at (.tail _ (.head _))) (HL14.out.hi (.tail _ (.head _))).2).out).mono ?_
  rintro e w15 ⟨rfl, hn, ho⟩
  have HL15 := Lib.hid (show Lg w w15 [(R11, #[.slice a10 TR.length c10, .slice b10 TV.length d10], 67), (R8, #[.slice a7 N N, .slice b7 M M], 67), (R5, #[.slice a4 TR.length c4, .slice b4 TV.length d4], 67), (R1, #[.slice a N c, .slice b M d], 62)] [(L10, H10, fun W => PkNew L10 H10 W a10 b10 TR TV), (L7, H7, fun W => PkNew L7 H7 W a7 b7 (nmarks 1 N) (marksHd (1 + N) M)), (L4, H4, fun W => PkNew L4 H4 W a4 b4 TR TV), (L3, H3, fun W => PkNew L3 H3 W a3 b3 r q)] from HL14.out.mark 1 rfl ho hn.solid (List.forall_mem_cons.2 ⟨.inr qR11_H7, (List.forall_mem_cons.2 ⟨.inr qR8_H7, (List.forall_mem_cons.2 ⟨.inl qL7_R5, (List.forall_mem_cons.2 ⟨.inl qL7_R1, (fun _ h => nomatch h)⟩)⟩)⟩)⟩) (List.forall_mem_cons.2 ⟨.inr qL10_H7, (List.forall_mem_cons.2 ⟨.inl qL7_H4, (List.forall_mem_cons.2 ⟨.inl qL7_H3, (fun _ h => nomatch h)⟩)⟩)⟩) rfl)
  clear hn ho
  go_wp2_with (first
    | (refine wpList_load_at rfl 67 (.tmp 6) rfl (R11) 0 rfl 67 #[.slice a10 TR.length c10, .slice b10 TV.length d10] (0, 0) (HL15.out.get (.head _)) [.slice a10 TR.length c10, .slice b10 TV.length d10] rfl _ Try.underlying67 rfl (by kernel_rfl) ?_)
    | (refine wpList_load_at rfl 67 (.tmp 4) rfl (R5) 0 rfl 67 #[.slice a4 TR.length c4, .slice b4 TV.length d4] (0, 0) (HL15.out.get (.tail _ (.tail _ (.head _)))) [.slice a4 TR.length c4, .slice b4 TV.length d4] rfl _ Try.underlying67 rfl (by kernel_rfl) ?_))
  refine (eqPicker_same _ _ _ _ _ _ _ _ TR TV _ (HL15.out.at (.head _)).nums (HL15.out.at (.head _)).ins (HL15.out.at (.tail _ (.tail _ (.head _)))).nums (HL15.out.at (.tail _ (.tail _ (.head _)))).ins hTR hTV).mono ?_
  rintro e w16 ⟨rfl, h⟩
  have HL16 := Lib.hid (show Lg w w16 [(R11, #[.slice a10 TR.length c10, .slice b10 TV.length d10], 67), (R8, #[.slice a7 N N, .slice b7 M M], 67), (R5, #[.slice a4 TR.length c4, .slice b4 TV.length d4], 67), (R1, #[.slice a N c, .slice b M d], 62)] [(L10, H10, fun W => PkNew L10 H10 W a10 b10 TR TV), (L7, H7, fun W => PkNew L7 H7 W a7 b7 (nmarks 1 N) (marksHd (1 + N) M)), (L4, H4, fun W => PkNew L4 H4 W a4 b4 TR TV), (L3, H3, fun W => PkNew L3 H3 W a3 b3 r q)] from HL15.out.kept h)
  clear h
  go_wp2_with (first
    | (refine wpList_load_at rfl 67 (.tmp 6) rfl (R11) 0 rfl 67 #[.slice a10 TR.length c10, .slice b10 TV.length d10] (0, 0) (HL16.out.get (.head _)) [.slice a10 TR.length c10, .slice b10 TV.length d10] rfl _ Try.underlying67 rfl (by kernel_rfl) ?_))
  refine (markPicker_1 (lo := L10) (hi := H10) _ _ _ _ TR TV _ (HL16.out.at (.head _)) (HL16.out.hi (.head _)).2 hTR hTV).mono ?_
  rintro e w17 ⟨rfl, hn, ho⟩
  have HL17 := Lib.hid (show Lg w w17 [(R11, #[.slice a10 TR.length c10, .slice b10 TV.length d10], 67), (R8, #[.slice a7 N N, .slice b7 M M], 67), (R5, #[.slice a4 TR.length c4, .slice b4 TV.length d4], 67), (R1, #[.slice a N c, .slice b M d], 62)] [(L10, H10, fun W => PkNew L10 H10 W a10 b10 (nmarks 1 TR.length) (marksHd (1 + TR.length) TV.length)), (L7, H7, fun W => PkNew L7 H7 W a7 b7 (nmarks 1 N) (marksHd (1 + N) M)), (L4, H4, fun W => PkNew L4 H4 W a4 b4 TR TV), (L3, H3, fun W => PkNew L3 H3 W a3 b3 r q)] from HL16.out.mark 0 rfl ho hn.solid (List.forall_mem_cons.2 ⟨.inr qR11_H10, (List.forall_mem_cons.2 ⟨.inl qL10_R8, (List.forall_mem_cons.2 ⟨.inl qL10_R5, (List.forall_mem_cons.2 ⟨.inl qL10_R1, (fun _ h => nomatch h)⟩)⟩)⟩)⟩) (List.forall_mem_cons.2 ⟨.inl qL10_H7, (List.forall_mem_cons.2 ⟨.inl qL10_H4, (List.forall_mem_cons.2 ⟨.inl qL10_H3, (fun _ h => nomatch h)⟩)⟩)⟩) rfl)
  clear hn ho
  go_wp2_with (first
    | (refine wpList_load_at rfl 67 (.tmp 6) rfl (R11) 0 rfl 67 #[.slice a10 TR.length c10, .slice b10 TV.length d10] (0, 0) (HL17.out.get (.head _)) [.slice a10 TR.length c10, .slice b10 TV.length d10] rfl _ Try.underlying67 rfl (by kernel_rfl) ?_))
  refine (heldPicker_1 _ _ _ _ TR.length TV.length _ (HL17.out.at (.head _)) hTR hTV).mono ?_
  rintro e w18 ⟨rfl, h⟩
  have HL18 := Lib.hid (show Lg w w18 [(R11, #[.slice a10 TR.length c10, .slice b10 TV.length d10], 67), (R8, #[.slice a7 N N, .slice b7 M M], 67), (R5, #[.slice a4 TR.length c4, .slice b4 TV.length d4], 67), (R1, #[.slice a N c, .slice b M d], 62)] [(L10, H10, fun W => PkNew L10 H10 W a10 b10 (nmarks 1 TR.length) (marksHd (1 + TR.length) TV.length)), (L7, H7, fun W => PkNew L7 H7 W a7 b7 (nmarks 1 N) (marksHd (1 + N) M)), (L4, H4, fun W => PkNew L4 H4 W a4 b4 TR TV), (L3, H3, fun W => PkNew L3 H3 W a3 b3 r q)] from HL17.out.kept h)
  clear h
  go_wp2_with (first
    | (refine wpList_load_at rfl 62 (.tmp 1) rfl (R1) 0 rfl 62 #[.slice a N c, .slice b M d] (0, 0) (HL18.out.get (.tail _ (.tail _ (.tail _ (.head _))))) [.slice a N c, .slice b M d] rfl _ Try.underlying62 rfl (by kernel_rfl) ?_))
  refine ((HT _ (HI1.out.kept HL18.out.below) (HI2.out.kept HL18.out.below)).out).mono ?_
  rintro e w19 ⟨a19, b19, rfl, hn, h⟩
  obtain ⟨L19, e19⟩ : ∃ x, w18.heap.size = x := ⟨_, rfl⟩
  obtain ⟨H19, f19⟩ : ∃ x, w19.heap.size = x := ⟨_, rfl⟩
  have qL19_R11 : R11 < L19 := Nat.lt_of_lt_of_eq (HL18.out.lt (.head _)) e19
  have qL19_R8 : R8 < L19 := Nat.lt_of_lt_of_eq (HL18.out.lt (.tail _ (.head _))) e19
  have qL19_R5 : R5 < L19 := Nat.lt_of_lt_of_eq (HL18.out.lt (.tail _ (.tail _ (.head _)))) e19
  have qL19_R1 : R1 < L19 := Nat.lt_of_lt_of_eq (HL18.out.lt (.tail _ (.tail _ (.tail _ (.head _))))) e19
  have qL19_H10 : H10 ≤ L19 := Nat.le_trans (HL18.out.hi (.head _)).2 (Nat.le_of_eq e19)
  have qL19_H7 : H7 ≤ L19 := Nat.le_trans (HL18.out.hi (.tail _ (.head _))).2 (Nat.le_of_eq e19)
  have qL19_H4 : H4 ≤ L19 := Nat.le_trans (HL18.out.hi (.tail _ (.tail _ (.head _)))).2 (Nat.le_of_eq e19)
  have qL19_H3 : H3 ≤ L19 := Nat.le_trans (HL18.out.hi (.tail _ (.tail _ (.tail _ (.head _))))).2 (Nat.le_of_eq e19)
  have qH19_L19 : L19 ≤ H19 := (by rw [← e19, ← f19]; exact h.size)
  have HL19 := Lib.hid (show Lg w w19 [(R11, #[.slice a10 TR.length c10, .slice b10 TV.length d10], 67), (R8, #[.slice a7 N N, .slice b7 M M], 67), (R5, #[.slice a4 TR.length c4, .slice b4 TV.length d4], 67), (R1, #[.slice a N c, .slice b M d], 62)] [(L19, H19, fun W => PkNew L19 H19 W a19 b19 r q), (L10, H10, fun W => PkNew L10 H10 W a10 b10 (nmarks 1 TR.length) (marksHd (1 + TR.length) TV.length)), (L7, H7, fun W => PkNew L7 H7 W a7 b7 (nmarks 1 N) (marksHd (1 + N) M)), (L4, H4, fun W => PkNew L4 H4 W a4 b4 TR TV), (L3, H3, fun W => PkNew L3 H3 W a3 b3 r q)] from HL18.out.made e19 f19 h (by rw [← e19, ← f19]; exact hn.solid))
  clear h hn e19 f19
  go_wp2_with fail
  refine ((HQ _ _ _ _ (HL19.out.at (.head _)).nums (HL19.out.at (.head _)).ins).out).mono ?_
  rintro e w20 ⟨a20, c20, b20, d20, rfl, hn, h⟩
  obtain ⟨L20, e20⟩ : ∃ x, w19.heap.size = x := ⟨_, rfl⟩
  obtain ⟨H20, f20⟩ : ∃ x, w20.heap.size = x := ⟨_, rfl⟩
  have qL20_R11 : R11 < L20 := Nat.lt_of_lt_of_eq (HL19.out.lt (.head _)) e20
  have qL20_R8 : R8 < L20 := Nat.lt_of_lt_of_eq (HL19.out.lt (.tail _ (.head _))) e20
  have qL20_R5 : R5 < L20 := Nat.lt_of_lt_of_eq (HL19.out.lt (.tail _ (.tail _ (.head _)))) e20
  have qL20_R1 : R1 < L20 := Nat.lt_of_lt_of_eq (HL19.out.lt (.tail _ (.tail _ (.tail _ (.head _))))) e20
  have qL20_H19 : H19 ≤ L20 := Nat.le_trans (HL19.out.hi (.head _)).2 (Nat.le_of_eq e20)
  have qL20_H10 : H10 ≤ L20 := Nat.le_trans (HL19.out.hi (.tail _ (.head _))).2 (Nat.le_of_eq e20)
  have qL20_H7 : H7 ≤ L20 := Nat.le_trans (HL19.out.hi (.tail _ (.tail _ (.head _)))).2 (Nat.le_of_eq e20)
  have qL20_H4 : H4 ≤ L20 := Nat.le_trans (HL19.out.hi (.tail _ (.tail _ (.tail _ (.head _))))).2 (Nat.le_of_eq e20)
  have qL20_H3 : H3 ≤ L20 := Nat.le_trans (HL19.out.hi (.tail _ (.tail _ (.tail _ (.tail _ (.head _)))))).2 (Nat.le_of_eq e20)
  have qH20_L20 : L20 ≤ H20 := (by rw [← e20, ← f20]; exact h.size)
  have HL20 := Lib.hid (show Lg w w20 [(R11, #[.slice a10 TR.length c10, .slice b10 TV.length d10], 67), (R8, #[.slice a7 N N, .slice b7 M M], 67), (R5, #[.slice a4 TR.length c4, .slice b4 TV.length d4], 67), (R1, #[.slice a N c, .slice b M d], 62)] [(L20, H20, fun W => PkNew L20 H20 W a20 b20 TR TV), (L19, H19, fun W => PkNew L19 H19 W a19 b19 r q), (L10, H10, fun W => PkNew L10 H10 W a10 b10 (nmarks 1 TR.length) (marksHd (1 + TR.length) TV.length)), (L7, H7, fun W => PkNew L7 H7 W a7 b7 (nmarks 1 N) (marksHd (1 + N) M)), (L4, H4, fun W => PkNew L4 H4 W a4 b4 TR TV), (L3, H3, fun W => PkNew L3 H3 W a3 b3 r q)] from HL19.out.made e20 f20 h (by rw [← e20, ← f20]; exact hn.solid))
  clear h hn e20 f20
  go_wp2_with (first
    | (refine wpList_alloc_h rfl 67 rfl (.agg #[.slice none 0 0, .slice none 0 0]) (by kernel_rfl) #[.slice none 0 0, .slice none 0 0] rfl ?_; intro w21 R21 e21 g21 b21; have qR21_R11 : R11 < R21 := Nat.lt_of_lt_of_eq (HL20.out.lt (.head _)) e21; have qR21_R8 : R8 < R21 := Nat.lt_of_lt_of_eq (HL20.out.lt (.tail _ (.head _))) e21; have qR21_R5 : R5 < R21 := Nat.lt_of_lt_of_eq (HL20.out.lt (.tail _ (.tail _ (.head _)))) e21; have qR21_R1 : R1 < R21 := Nat.lt_of_lt_of_eq (HL20.out.lt (.tail _ (.tail _ (.tail _ (.head _))))) e21; have qR21_H20 : H20 ≤ R21 := Nat.le_trans (HL20.out.hi (.head _)).2 (Nat.le_of_eq e21); have qR21_H19 : H19 ≤ R21 := Nat.le_trans (HL20.out.hi (.tail _ (.head _))).2 (Nat.le_of_eq e21); have qR21_H10 : H10 ≤ R21 := Nat.le_trans (HL20.out.hi (.tail _ (.tail _ (.head _)))).2 (Nat.le_of_eq e21); have qR21_H7 : H7 ≤ R21 := Nat.le_trans (HL20.out.hi (.tail _ (.tail _ (.tail _ (.head _))))).2 (Nat.le_of_eq e21); have qR21_H4 : H4 ≤ R21 := Nat.le_trans (HL20.out.hi (.tail _ (.tail _ (.tail _ (.tail _ (.head _)))))).2 (Nat.le_of_eq e21); have qR21_H3 : H3 ≤ R21 := Nat.le_trans (HL20.out.hi (.tail _ (.tail _ (.tail _ (.tail _ (.tail _ (.head _))))))).2 (Nat.le_of_eq e21); have HL21 := Lib.hid (show Lg w w21 [(R21, #[.slice none 0 0, .slice none 0 0], 67), (R11, #[.slice a10 TR.length c10, .slice b10 TV.length d10], 67), (R8, #[.slice a7 N N, .slice b7 M M], 67), (R5, #[.slice a4 TR.length c4, .slice b4 TV.length d4], 67), (R1, #[.slice a N c, .slice b M d], 62)] [(L20, H20, fun W => PkNew L20 H20 W a20 b20 TR TV), (L19, H19, fun W => PkNew L19 H19 W a19 b19 r q), (L10, H10, fun W => PkNew L10 H10 W a10 b10 (nmarks 1 TR.length) (marksHd (1 + TR.length) TV.length)), (L7, H7, fun W => PkNew L7 H7 W a7 b7 (nmarks 1 N) (marksHd (1 + N) M)), (L4, H4, fun W => PkNew L4 H4 W a4 b4 TR TV), (L3, H3, fun W => PkNew L3 H3 W a3 b3 r q)] from HL20.out.box e21 g21 b21); clear g21 b21 e21)
    | (refine wpList_put_at rfl 67 (.tmp 10) (.tmp 56) rfl rfl (R21) 0 rfl (.agg #[.slice a20 TR.length c20, .slice b20 TV.length d20]) rfl #[.slice a20 TR.length c20, .slice b20 TV.length d20] rfl 67 #[.slice none 0 0, .slice none 0 0] #[.slice a20 TR.length c20, .slice b20 TV.length d20] (HL21.out.get (.head _)) (by kernel_rfl) (by kernel_rfl) (by kernel_rfl) (by kernel_rfl) ?_; intro w22 g22 o22; have HL22 := Lib.hid (show Lg w w22 [(R21, #[.slice a20 TR.length c20, .slice b20 TV.length d20], 67), (R11, #[.slice a10 TR.length c10, .slice b10 TV.length d10], 67), (R8, #[.slice a7 N N, .slice b7 M M], 67), (R5, #[.slice a4 TR.length c4, .slice b4 TV.length d4], 67), (R1, #[.slice a N c, .slice b M d], 62)] [(L20, H20, fun W => PkNew L20 H20 W a20 b20 TR TV), (L19, H19, fun W => PkNew L19 H19 W a19 b19 r q), (L10, H10, fun W => PkNew L10 H10 W a10 b10 (nmarks 1 TR.length) (marksHd (1 + TR.length) TV.length)), (L7, H7, fun W => PkNew L7 H7 W a7 b7 (nmarks 1 N) (marksHd (1 + N) M)), (L4, H4, fun W => PkNew L4 H4 W a4 b4 TR TV), (L3, H3, fun W => PkNew L3 H3 W a3 b3 r q)] from HL21.out.put 0 rfl g22 o22 (List.forall_mem_cons.2 ⟨Nat.ne_of_lt qR21_R11, (List.forall_mem_cons.2 ⟨Nat.ne_of_lt qR21_R8, (List.forall_mem_cons.2 ⟨Nat.ne_of_lt qR21_R5, (List.forall_mem_cons.2 ⟨Nat.ne_of_lt qR21_R1, (fun _ h => nomatch h)⟩)⟩)⟩)⟩) (List.forall_mem_cons.2 ⟨.inl qR21_H20, (List.forall_mem_cons.2 ⟨.inl qR21_H19, (List.forall_mem_cons.2 ⟨.inl qR21_H10, (List.forall_mem_cons.2 ⟨.inl qR21_H7, (List.forall_mem_cons.2 ⟨.inl qR21_H4, (List.forall_mem_cons.2 ⟨.inl qR21_H3, (fun _ h => nomatch h)⟩)⟩)⟩)⟩)⟩)⟩) rfl); clear g22 o22)
    | (refine wpList_load_at rfl 67 (.tmp 10) rfl (R21) 0 rfl 67 #[.slice a20 TR.length c20, .slice b20 TV.length d20] (0, 0) (HL22.out.get (.head _)) [.slice a20 TR.length c20, .slice b20 TV.length d20] rfl _ Try.underlying67 rfl (by kernel_rfl) ?_)
    | (refine wpList_load_at rfl 67 (.tmp 4) rfl (R5) 0 rfl 67 #[.slice a4 TR.length c4, .slice b4 TV.length d4] (0, 0) (HL22.out.get (.tail _ (.tail _ (.tail _ (.head _))))) [.slice a4 TR.length c4, .slice b4 TV.length d4] rfl _ Try.underlying67 rfl (by kernel_rfl) ?_))
  refine (eqPicker_same _ _ _ _ _ _ _ _ TR TV _ (HL22.out.at (.head _)).nums (HL22.out.at (.head _)).ins (HL22.out.at (.tail _ (.tail _ (.tail _ (.tail _ (.head _)))))).nums (HL22.out.at (.tail _ (.tail _ (.tail _ (.tail _ (.head _)))))).ins hTR hTV).mono ?_
  rintro e w23 ⟨rfl, h⟩
  have HL23 := Lib.hid (show Lg w w23 [(R21, #[.slice a20 TR.length c20, .slice b20 TV.length d20], 67), (R11, #[.slice a10 TR.length c10, .slice b10 TV.length d10], 67), (R8, #[.slice a7 N N, .slice b7 M M], 67), (R5, #[.slice a4 TR.length c4, .slice b4 TV.length d4], 67), (R1, #[.slice a N c, .slice b M d], 62)] [(L20, H20, fun W => PkNew L20 H20 W a20 b20 TR TV), (L19, H19, fun W => PkNew L19 H19 W a19 b19 r q), (L10, H10, fun W => PkNew L10 H10 W a10 b10 (nmarks 1 TR.length) (marksHd (1 + TR.length) TV.length)), (L7, H7, fun W => PkNew L7 H7 W a7 b7 (nmarks 1 N) (marksHd (1 + N) M)), (L4, H4, fun W => PkNew L4 H4 W a4 b4 TR TV), (L3, H3, fun W => PkNew L3 H3 W a3 b3 r q)] from HL22.out.kept h)
  clear h
  go_wp2_with (first
    | (refine wpList_load_at rfl 67 (.tmp 6) rfl (R11) 0 rfl 67 #[.slice a10 TR.length c10, .slice b10 TV.length d10] (0, 0) (HL23.out.get (.tail _ (.head _))) [.slice a10 TR.length c10, .slice b10 TV.length d10] rfl _ Try.underlying67 rfl (by kernel_rfl) ?_))
  refine (heldPicker_1 _ _ _ _ TR.length TV.length _ (HL23.out.at (.tail _ (.tail _ (.head _)))) hTR hTV).mono ?_
  rintro e w24 ⟨rfl, h⟩
  have HL24 := Lib.hid (show Lg w w24 [(R21, #[.slice a20 TR.length c20, .slice b20 TV.length d20], 67), (R11, #[.slice a10 TR.length c10, .slice b10 TV.length d10], 67), (R8, #[.slice a7 N N, .slice b7 M M], 67), (R5, #[.slice a4 TR.length c4, .slice b4 TV.length d4], 67), (R1, #[.slice a N c, .slice b M d], 62)] [(L20, H20, fun W => PkNew L20 H20 W a20 b20 TR TV), (L19, H19, fun W => PkNew L19 H19 W a19 b19 r q), (L10, H10, fun W => PkNew L10 H10 W a10 b10 (nmarks 1 TR.length) (marksHd (1 + TR.length) TV.length)), (L7, H7, fun W => PkNew L7 H7 W a7 b7 (nmarks 1 N) (marksHd (1 + N) M)), (L4, H4, fun W => PkNew L4 H4 W a4 b4 TR TV), (L3, H3, fun W => PkNew L3 H3 W a3 b3 r q)] from HL23.out.kept h)
  clear h
  go_wp2_with fail
  go_ret
  exact ⟨rfl, HL24.out.below⟩

set_option maxRecDepth 100000 in
theorem lifted (os : Os) (started : os.Started) (H : Type) (enc : TypeId × Value → H) :
    ReturnsInHanded {} Try.checked os 10 .any (Rows.fnExactPickTickSpec.pre6 enc Try.prog Try.f10 Rows.fnExactPickTickRow.domain false) (Rows.fnExactPickTickSpec.post enc Try.prog Try.f10 false true false false) := by
  refine returnsInHanded_of_change (C := Try.checked) own started (by kernel_rfl) Try.func10
    (ChangeSpec.witness6 (enc := enc) (C := Try.checked) false ⟨#[], #[.agg #[.slice none 0 0, .slice none 0 0]], []⟩ 8 (by kernel_rfl) (by kernel_rfl) (by kernel_rfl) (by kernel_rfl)) ?_
  intro W base args ds gs before hval0 hW hcnd _
  have hval : ∀ (j : Nat) t v, Try.f10.params[j]? = some t → args[j]? = some v → Value.okWide Try.prog W .any base t v := hval0
  have hW' := hW
  obtain ⟨p, q, hA0, hV, rfl, hfz, hnd⟩ := hW
  have hlt := DataW.TrodAll.lt hA0
  have hA : DataW.TrodAll enc Try.prog W 0 (fun _ => true) true Try.f10.params.toList args.toList ds p := hA0
  rw [Try.params10] at hA hval
  obtain ⟨v0, vs0, d0, ds0, p0, q0, hargs, rfl, rfl, h0, r0⟩ := trodAll_cons hA
  obtain ⟨rfl, rfl, rfl⟩ := trodAll_nil r0
  obtain rfl : args = #[v0] := by cases args; simp_all
  obtain ⟨rfl, rfl⟩ := trodVars_none hV
  have l0 : ∀ x ∈ p0, x.block < W.heap.size := fun x hx => hlt x (by simp [hx])
  have k0 := open_Pk (hval 0 62 v0 rfl rfl) h0
  clear hA0 hval0
  simp only [List.append_nil] at hW'
  refine (walk W v0 k0).mono fun e W' ⟨he, hg⟩ => ?_
  subst he
  exact ⟨_, rfl, _, _, _, [], _, [], hW', (trodAll_cons_mk (shut_bool Try.underlying4 _) trodAll_mk0), (trodAll_cons_mk (Below.trod (by kernel_rfl) (by kernel_rfl) (of_decide_eq_true (by kernel_rfl)) h0 hg l0) trodAll_mk0), rfl, hg.frame _, fun h => by cases h⟩

theorem over : Rows.fnExactPickTickRow.holds Try.pinned (OpenSpec.ofChange Rows.fnExactPickTickSpec) :=
  OpenClaim.holds_of_wide 10 Try.f10 rfl rfl rfl rfl rfl rfl rfl ⟨rfl, rfl, rfl, rfl, rfl⟩ rfl rfl rfl rfl rfl (by kernel_rfl) Try.func10 (by kernel_rfl)
    (of_decide_eq_true (by kernel_rfl)) (by unfold Func.isWrapper; first | (rw [if_pos (by decide +kernel)]; kernel_rfl) | (rw [if_neg (by decide +kernel)]; exact ⟨rfl, rfl⟩))
    (fun os started H enc _ => lifted os started H enc)

/-- ████ THE STATEMENT ████ -/
theorem proved : Rows.FnExactPickTickSaid :=
  over
#print axioms proved
end Go.Proofs.Ytdhmcepnmbchkaa.fnExactPickTick
