/- For every Picker the program's PickerRight answers as the model's PickerRight does, and the Picker stays as it was. -/
import Derived.Test.YtdhmcepnmbchkaaRows
import Derived.Test.YtdhmcepnmbchkaaPickTo
import Derived.Test.YtdhmcepnmbchkaaPickRight
import Derived.Test.YtdhmcepnmbchkaaPickImpl
import Derived.WalkKit
import Derived.ProofKit
import Derived.OpenShut
import Derived.ShutString
import Derived.ChangeOld
import Derived.Below
import Derived.Carry
namespace Go.Proofs.Ytdhmcepnmbchkaa.fnExactPickerRight
open Go.ChangeShapes Go.WideShapes Go.ChangeAt Go.RowKit
open Go.ChangeMaps (open_string shut_string)
set_option linter.unusedVariables false

theorem own : ownKnob Try.prog.godebug = none := by kernel_rfl

set_option maxRecDepth 100000 in
set_option maxHeartbeats 100000000 in
theorem walk (w : World) (v0 : Value) (k0 : IsPk w v0) :
    Calls Try.prog 8 #[v0] w fun e w' => e = .returned (.bool true) ∧ Below w.heap.size w w' := by
  obtain ⟨a, c, r, b, d, q, rfl, h1, h2, hok, hr, hq⟩ := k0
  have HS := fun W => Lib.hid (szPicker_any a b c d r.length q.length W hr hq)
  have HI1 := Lib.hid h1
  have HI2 := Lib.hid h2
  clear hok h1 h2
  generalize hN : r.length = N at *
  generalize hM : q.length = M at *
  have HN := Lib.hid hN
  have HM := Lib.hid hM
  clear hN hM
  go_enter Try.func8, Try.ntmps8
  go_wp2_with (first
    | (refine wpList_box_h rfl 62 (.tmp 0) rfl #[.slice a N c, .slice b M d] rfl ?_; intro w1 R1 e1 g1 b1; have HL1 := Lib.hid (show Lg w w1 [(R1, #[.slice a N c, .slice b M d], 62)] [] from (Lg.first w).box e1 g1 b1); clear g1 b1 e1)
    | (refine wpList_load_at rfl 62 (.tmp 1) rfl (R1) 0 rfl 62 #[.slice a N c, .slice b M d] (0, 0) (HL1.out.get (.head _)) [.slice a N c, .slice b M d] rfl _ Try.underlying62 rfl (by kernel_rfl) ?_))
  refine ((HS _).out).mono ?_
  rintro e w2 ⟨m, rfl, hm, h⟩
  have HL2 := Lib.hid (show Lg w w2 [(R1, #[.slice a N c, .slice b M d], 62)] [] from HL1.out.kept h)
  clear h
  by_cases hneg : m < 0
  · have hd : decide (m < 0) = true := decide_eq_true hneg
    go_wp2_with fail
    go_ret
    exact ⟨rfl, HL2.out.below⟩
  have hd : decide (m < 0) = false := decide_eq_false hneg
  obtain ⟨hN6, hM6⟩ := hm (by omega)
  clear hm hneg HS
  have HT := fun W hW hW' => Lib.hid (show Calls Try.prog 43 #[.agg #[.slice a N c, .slice b M d]] W fun e w' => ∃ a' b', e = .returned (.agg #[.slice a' N N, .slice b' M M]) ∧ PkNew W.heap.size w'.heap.size w' a' b' r q ∧ Below W.heap.size W w' from by
    have := toPicker_new a b c d r q W hW hW' (by rw [HN.out]; omega) (by rw [HM.out]; omega)
    rwa [HN.out, HM.out] at this)
  have HE := fun W a b a' b' c d c' d' (h1 : NumsIn W a r) (h2 : RsIn hdL 3 W b q) (h3 : NumsIn W a' r) (h4 : RsIn hdL 3 W b' q) => Lib.hid (show Calls Try.prog 45 #[.agg #[.slice a N c, .slice b M d], .agg #[.slice a' N c', .slice b' M d']] W fun e w' => e = .returned (.bool true) ∧ Below W.heap.size W w' from by
    have := eqPicker_same a b a' b' c d c' d' r q W h1 h2 h3 h4 (by rw [HN.out]; omega) (by rw [HM.out]; omega)
    rwa [HN.out, HM.out] at this)
  have HP := fun W a b c d h1 h2 => Lib.hid (specPickerRight_any a b c d r q W h1 h2 (by rw [HN.out]; unfold maxLen; omega) (by rw [HM.out]; unfold maxLen; omega))
  have HQ := fun W a b d h1 h2 => Lib.hid (implPickerRight_any a b N d r q W h1 h2 (by rw [HN.out]; unfold maxLen; omega) (by rw [HM.out]; unfold maxLen; omega) (by rw [HN.out]; omega))
  generalize pkB r q = V at *
  rw [HN.out, HM.out] at HP HQ
  have hVV : (V != V) = false := by simp
  go_wp2_with (first
    | (refine wpList_load_at rfl 62 (.tmp 1) rfl (R1) 0 rfl 62 #[.slice a N c, .slice b M d] (0, 0) (HL2.out.get (.head _)) [.slice a N c, .slice b M d] rfl _ Try.underlying62 rfl (by kernel_rfl) ?_))
  refine ((HT _ (HI1.out.kept HL2.out.below) (HI2.out.kept HL2.out.below)).out).mono ?_
  rintro e w3 ⟨a3, b3, rfl, hn, h⟩
  obtain ⟨L3, e3⟩ : ∃ x, w2.heap.size = x := ⟨_, rfl⟩
  obtain ⟨H3, f3⟩ : ∃ x, w3.heap.size = x := ⟨_, rfl⟩
  have qL3_R1 : R1 < L3 := Nat.lt_of_lt_of_eq (HL2.out.lt (.head _)) e3
  have qH3_L3 : L3 ≤ H3 := (by rw [← e3, ← f3]; exact h.size)
  have HL3 := Lib.hid (show Lg w w3 [(R1, #[.slice a N c, .slice b M d], 62)] [(L3, H3, fun W => PkNew L3 H3 W a3 b3 r q)] from HL2.out.made e3 f3 h (by rw [← e3, ← f3]; exact hn.solid))
  clear h hn e3 f3
  go_wp2_with fail
  refine ((HP _ _ _ _ _ (HL3.out.at (.head _)).nums (HL3.out.at (.head _)).ins).out).mono ?_
  rintro e w4 ⟨rfl, h⟩
  have HL4 := Lib.hid (show Lg w w4 [(R1, #[.slice a N c, .slice b M d], 62)] [(L3, H3, fun W => PkNew L3 H3 W a3 b3 r q)] from HL3.out.kept h)
  clear h
  go_wp2_with (first
    | (refine wpList_load_at rfl 62 (.tmp 1) rfl (R1) 0 rfl 62 #[.slice a N c, .slice b M d] (0, 0) (HL4.out.get (.head _)) [.slice a N c, .slice b M d] rfl _ Try.underlying62 rfl (by kernel_rfl) ?_))
  refine ((HT _ (HI1.out.kept HL4.out.below) (HI2.out.kept HL4.out.below)).out).mono ?_
  rintro e w5 ⟨a5, b5, rfl, hn, h⟩
  obtain ⟨L5, e5⟩ : ∃ x, w4.heap.size = x := ⟨_, rfl⟩
  obtain ⟨H5, f5⟩ : ∃ x, w5.heap.size = x := ⟨_, rfl⟩
  have qL5_R1 : R1 < L5 := Nat.lt_of_lt_of_eq (HL4.out.lt (.head _)) e5
  have qL5_H3 : H3 ≤ L5 := Nat.le_trans (HL4.out.hi (.head _)).2 (Nat.le_of_eq e5)
  have qH5_L5 : L5 ≤ H5 := (by rw [← e5, ← f5]; exact h.size)
  have HL5 := Lib.hid (show Lg w w5 [(R1, #[.slice a N c, .slice b M d], 62)] [(L5, H5, fun W => PkNew L5 H5 W a5 b5 r q), (L3, H3, fun W => PkNew L3 H3 W a3 b3 r q)] from HL4.out.made e5 f5 h (by rw [← e5, ← f5]; exact hn.solid))
  clear h hn e5 f5
  go_wp2_with (first
    | (refine wpList_alloc_h rfl 67 rfl (.agg #[.slice none 0 0, .slice none 0 0]) (by kernel_rfl) #[.slice none 0 0, .slice none 0 0] rfl ?_; intro w6 R6 e6 g6 b6; have qR6_R1 : R1 < R6 := Nat.lt_of_lt_of_eq (HL5.out.lt (.head _)) e6; have qR6_H5 : H5 ≤ R6 := Nat.le_trans (HL5.out.hi (.head _)).2 (Nat.le_of_eq e6); have qR6_H3 : H3 ≤ R6 := Nat.le_trans (HL5.out.hi (.tail _ (.head _))).2 (Nat.le_of_eq e6); have HL6 := Lib.hid (show Lg w w6 [(R6, #[.slice none 0 0, .slice none 0 0], 67), (R1, #[.slice a N c, .slice b M d], 62)] [(L5, H5, fun W => PkNew L5 H5 W a5 b5 r q), (L3, H3, fun W => PkNew L3 H3 W a3 b3 r q)] from HL5.out.box e6 g6 b6); clear g6 b6 e6)
    | (refine wpList_put_at rfl 67 (.tmp 5) (.tmp 16) rfl rfl (R6) 0 rfl (.agg #[.slice a5 N N, .slice b5 M M]) rfl #[.slice a5 N N, .slice b5 M M] rfl 67 #[.slice none 0 0, .slice none 0 0] #[.slice a5 N N, .slice b5 M M] (HL6.out.get (.head _)) (by kernel_rfl) (by kernel_rfl) (by kernel_rfl) (by kernel_rfl) ?_; intro w7 g7 o7; have HL7 := Lib.hid (show Lg w w7 [(R6, #[.slice a5 N N, .slice b5 M M], 67), (R1, #[.slice a N c, .slice b M d], 62)] [(L5, H5, fun W => PkNew L5 H5 W a5 b5 r q), (L3, H3, fun W => PkNew L3 H3 W a3 b3 r q)] from HL6.out.put 0 rfl g7 o7 (List.forall_mem_cons.2 ⟨Nat.ne_of_lt qR6_R1, (fun _ h => nomatch h)⟩) (List.forall_mem_cons.2 ⟨.inl qR6_H5, (List.forall_mem_cons.2 ⟨.inl qR6_H3, (fun _ h => nomatch h)⟩)⟩) rfl); clear g7 o7)
    | (refine wpList_load_at rfl 67 (.tmp 5) rfl (R6) 0 rfl 67 #[.slice a5 N N, .slice b5 M M] (0, 0) (HL7.out.get (.head _)) [.slice a5 N N, .slice b5 M M] rfl _ Try.underlying67 rfl (by kernel_rfl) ?_))
  refine ((HQ _ _ _ _ (HL7.out.at (.head _)).nums (HL7.out.at (.head _)).ins).out).mono ?_
  rintro e w8 ⟨rfl, h⟩
  have HL8 := Lib.hid (show Lg w w8 [(R6, #[.slice a5 N N, .slice b5 M M], 67), (R1, #[.slice a N c, .slice b M d], 62)] [(L5, H5, fun W => PkNew L5 H5 W a5 b5 r q), (L3, H3, fun W => PkNew L3 H3 W a3 b3 r q)] from HL7.out.kept h)
  clear h
  go_wp2_with fail
  have HK := Lib.hid (show ∀ W, Below w8.heap.size w8 W → (((W.cell? ⟨R6, 0, none⟩ = some (.slice a5 N N) ∧ W.cell? ⟨R6, 1, none⟩ = some (.slice b5 M M)) ∧ (W.cell? ⟨R1, 0, none⟩ = some (.slice a N c) ∧ W.cell? ⟨R1, 1, none⟩ = some (.slice b M d))) ∧ Below w8.heap.size w8 W) from fun W hW => by
    have hX := (hW.block R6 (HL8.out.lt (.head _))).trans (HL8.out.get (.head _))
    have hA := (hW.block R1 (HL8.out.lt (.tail _ (.head _)))).trans (HL8.out.get (.tail _ (.head _)))
    refine ⟨⟨⟨?_, ?_⟩, ?_, ?_⟩, hW⟩
    all_goals first | (rw [cell_of_row W R6 _ _ _ (0, 0) hX]; rfl) | (rw [cell_of_row W R1 _ _ _ (0, 0) hA]; rfl))
  go_region_held3 (fun W => ((W.cell? ⟨R6, 0, none⟩ = some (.slice a5 N N) ∧ W.cell? ⟨R6, 1, none⟩ = some (.slice b5 M M)) ∧ (W.cell? ⟨R1, 0, none⟩ = some (.slice a N c) ∧ W.cell? ⟨R1, 1, none⟩ = some (.slice b M d))) ∧ Below w8.heap.size w8 W)
    (first | with_reducible exact HK.out _ (Below.refl _ _).drew | with_reducible exact HK.out _ bz1 | with_reducible exact HK.out _ bz2)
    (first
      | (go_at_call 43; refine (HT _ (HI1.out.kept HL8.out.below.drew) (HI2.out.kept HL8.out.below.drew)).out.mono ?_; rintro e wz1 ⟨az, bz, rfl, hnz, hz1⟩; have bz1 : Below w8.heap.size w8 wz1 := (Below.refl _ _).drew.trans (hz1.mono (Nat.le_refl _)); have HZ := Lib.hid hnz; clear hnz)
      | (go_at_call 45; refine (HE _ _ _ _ _ _ _ _ _ ((HL8.out.at (.head _)).kept bz1).nums ((HL8.out.at (.head _)).kept bz1).ins HZ.out.nums HZ.out.ins).out.mono ?_; rintro e wz2 ⟨rfl, hz2⟩; have bz2 : Below w8.heap.size w8 wz2 := bz1.trans (hz2.mono bz1.size)))
  have HL9 := Lib.hid (show Lg w wz2 [(R6, #[.slice a5 N N, .slice b5 M M], 67), (R1, #[.slice a N c, .slice b M d], 62)] [(L5, H5, fun W => PkNew L5 H5 W a5 b5 r q), (L3, H3, fun W => PkNew L3 H3 W a3 b3 r q)] from HL8.out.kept bz2)
  go_wp2_with fail
  go_ret
  exact ⟨rfl, HL9.out.below⟩

set_option maxRecDepth 100000 in
theorem lifted (os : Os) (started : os.Started) (H : Type) (enc : TypeId × Value → H) :
    ReturnsInHanded {} Try.checked os 8 .any (Rows.fnExactPickerRightSpec.pre6 enc Try.prog Try.f8 Rows.fnExactPickerRightRow.domain false) (Rows.fnExactPickerRightSpec.post enc Try.prog Try.f8 false true false false) := by
  refine returnsInHanded_of_change (C := Try.checked) own started (by kernel_rfl) Try.func8
    (ChangeSpec.witness6 (enc := enc) (C := Try.checked) false ⟨#[], #[.agg #[.slice none 0 0, .slice none 0 0]], []⟩ 8 (by kernel_rfl) (by kernel_rfl) (by kernel_rfl) (by kernel_rfl)) ?_
  intro W base args ds gs before hval0 hW hcnd _
  have hval : ∀ (j : Nat) t v, Try.f8.params[j]? = some t → args[j]? = some v → Value.okWide Try.prog W .any base t v := hval0
  have hW' := hW
  obtain ⟨p, q, hA0, hV, rfl, hfz, hnd⟩ := hW
  have hlt := DataW.TrodAll.lt hA0
  have hA : DataW.TrodAll enc Try.prog W 0 (fun _ => true) true Try.f8.params.toList args.toList ds p := hA0
  rw [Try.params8] at hA hval
  obtain ⟨v0, vs0, d0, ds0, p0, q0, hargs, rfl, rfl, h0, r0⟩ := trodAll_cons hA
  obtain ⟨rfl, rfl, rfl⟩ := trodAll_nil r0
  obtain rfl : args = #[v0] := by cases args; simp_all
  obtain ⟨rfl, rfl⟩ := trodVars_none hV
  have l0 : ∀ x ∈ p0, x.block < W.heap.size := fun x hx => hlt x (by simp [hx])
  have k0 := open_Pk (hval 0 62 v0 rfl rfl) h0
  clear hA0 hval0
  simp only [List.append_nil] at hW'
  refine (walk W v0 k0).mono fun e W' ⟨he, hg⟩ => ?_
  subst he
  exact ⟨_, rfl, _, _, _, [], _, [], hW', (trodAll_cons_mk (shut_bool Try.underlying4 _) trodAll_mk0), (trodAll_cons_mk (Below.trod (by kernel_rfl) (by kernel_rfl) (of_decide_eq_true (by kernel_rfl)) h0 hg l0) trodAll_mk0), rfl, hg.frame _, fun h => by cases h⟩

theorem over : Rows.fnExactPickerRightRow.holds Try.pinned (OpenSpec.ofChange Rows.fnExactPickerRightSpec) :=
  OpenClaim.holds_of_wide 8 Try.f8 rfl rfl rfl rfl rfl rfl rfl ⟨rfl, rfl, rfl, rfl, rfl⟩ rfl rfl rfl rfl rfl (by kernel_rfl) Try.func8 (by kernel_rfl)
    (of_decide_eq_true (by kernel_rfl)) (by unfold Func.isWrapper; first | (rw [if_pos (by decide +kernel)]; kernel_rfl) | (rw [if_neg (by decide +kernel)]; exact ⟨rfl, rfl⟩))
    (fun os started H enc _ => lifted os started H enc)

/-- ████ THE STATEMENT ████ -/
theorem proved : Rows.FnExactPickerRightSaid :=
  over
#print axioms proved
end Go.Proofs.Ytdhmcepnmbchkaa.fnExactPickerRight
