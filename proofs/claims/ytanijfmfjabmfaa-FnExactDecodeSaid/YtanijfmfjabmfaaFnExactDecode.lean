/- For every number of a group and every text the program's Decode answers as the model's Decode does, in memory of its own. -/
import Derived.Test.YtanijfmfjabmfaaRows
import Derived.Test.YtanijfmfjabmfaaDec
import Derived.Test.YtanijfmfjabmfaaValLaw
import Derived.WalkKit
import Derived.ProofKit
import Derived.OpenShut
import Derived.ShutString
import Derived.ChangeOld
import Derived.Below
namespace Go.Proofs.Ytanijfmfjabmfaa.fnExactDecode
open Go.ChangeShapes Go.WideShapes Go.ChangeAt Go.RowKit
open Go.ChangeMaps (open_string shut_string)
set_option linter.unusedVariables false      -- a walk need not use every 'w<i>' (that an integer argument fits its kind)

theorem own : ownKnob Try.prog.godebug = none := by kernel_rfl

set_option maxRecDepth 100000 in
set_option maxHeartbeats 8000000 in
theorem walk (a0 : Int) (a1 : ByteArray) (w0 : (Lit.int .i64 a0).wf = true) (w1 : a1.size ≤ maxLen) (w : World) :
    Calls Try.prog 11 #[.int .i64 a0, .string a1] w fun e w' => e = .returned (.bool true) ∧ Below w.heap.size w w' := by
  have hs := w1
  clear w0 w1
  generalize a0 = p
  generalize a1 = s at *
  by_cases hbig : 1048576 < s.size
  · have hd : decide (1048576 < (s.size : Int)) = true := decide_eq_true (by omega)
    go_enter Try.func11, Try.ntmps11
    go_wp2_with fail
    go_ret
    exact ⟨rfl, Below.refl _ _⟩
  have hd : decide (1048576 < (s.size : Int)) = false := decide_eq_false (by omega)
  have HSP := fun W => Lib.hid (specDecode_any p s W hs)
  have HIM := fun W => Lib.hid (implDecode_any p s W hs)
  unfold DecOut at HSP HIM
  have hL : (decV (decide (ixD p < 6)) (defD p).s (defD p).fs s).length ≤ 5 := by
    unfold decV
    split
    · rw [decF_len]; exact defD_len p
    · simp
  generalize decV (decide (ixD p < 6)) (defD p).s (defD p).fs s = L at *
  generalize decC (decide (ixD p < 6)) (defD p).s s = C at *
  have g1 : decide (((1 + 2 * L.length : Nat) : Int) < 0) = false := decide_eq_false (by omega)
  have g3 : (((1 + 2 * L.length : Nat) : Int) != ((1 + 2 * L.length : Nat) : Int)) = false := by simp
  unfold maxLen at hs
  go_enter Try.func11, Try.ntmps11
  go_wp2_with fail
  refine ((HSP _).out).mono ?_
  rintro e w1 ⟨a1, c1, rfl, hn, h⟩
  obtain ⟨L1, e1⟩ : ∃ x, w.heap.size = x := ⟨_, rfl⟩
  obtain ⟨H1, f1⟩ : ∃ x, w1.heap.size = x := ⟨_, rfl⟩
  have qH1_L1 : L1 ≤ H1 := (by rw [← e1, ← f1]; exact h.size)
  have HL1 := Lib.hid (show Lg w w1 [] [(L1, H1, fun W => RsNew vlL 2 142 L1 H1 W a1 L)] from (Lg.first w).made e1 f1 h (by rw [← e1, ← f1]; exact hn.solid))
  clear h hn e1 f1
  go_wp2_with (first
    | (refine wpList_alloc_h rfl 66 rfl (.agg #[.slice none 0 0, .int .i64 0]) (by kernel_rfl) #[.slice none 0 0, .int .i64 0] rfl ?_; intro w2 R2 e2 g2 b2; have qR2_H1 : H1 ≤ R2 := Nat.le_trans (HL1.out.hi (.head _)).2 (Nat.le_of_eq e2); have HL2 := Lib.hid (show Lg w w2 [(R2, #[.slice none 0 0, .int .i64 0], 66)] [(L1, H1, fun W => RsNew vlL 2 142 L1 H1 W a1 L)] from HL1.out.box e2 g2 b2); clear g2 b2 e2)
    | (refine wpList_put_at rfl 66 (.tmp 5) (.tmp 15) rfl rfl (R2) 0 rfl (.agg #[.slice a1 L.length c1, .int .i64 C]) rfl #[.slice a1 L.length c1, .int .i64 C] rfl 66 #[.slice none 0 0, .int .i64 0] #[.slice a1 L.length c1, .int .i64 C] (HL2.out.get (.head _)) (by kernel_rfl) (by kernel_rfl) (by kernel_rfl) (by kernel_rfl) ?_; intro w3 g3 o3; have HL3 := Lib.hid (show Lg w w3 [(R2, #[.slice a1 L.length c1, .int .i64 C], 66)] [(L1, H1, fun W => RsNew vlL 2 142 L1 H1 W a1 L)] from HL2.out.put 0 rfl g3 o3 (fun _ h => nomatch h) (List.forall_mem_cons.2 ⟨.inl qR2_H1, (fun _ h => nomatch h)⟩) rfl); clear g3 o3))
  refine ((HIM _).out).mono ?_
  rintro e w4 ⟨a4, c4, rfl, hn, h⟩
  obtain ⟨L4, e4⟩ : ∃ x, w3.heap.size = x := ⟨_, rfl⟩
  obtain ⟨H4, f4⟩ : ∃ x, w4.heap.size = x := ⟨_, rfl⟩
  have qL4_R2 : R2 < L4 := Nat.lt_of_lt_of_eq (HL3.out.lt (.head _)) e4
  have qL4_H1 : H1 ≤ L4 := Nat.le_trans (HL3.out.hi (.head _)).2 (Nat.le_of_eq e4)
  have qH4_L4 : L4 ≤ H4 := (by rw [← e4, ← f4]; exact h.size)
  have HL4 := Lib.hid (show Lg w w4 [(R2, #[.slice a1 L.length c1, .int .i64 C], 66)] [(L4, H4, fun W => RsNew vlL 2 142 L4 H4 W a4 L), (L1, H1, fun W => RsNew vlL 2 142 L1 H1 W a1 L)] from HL3.out.made e4 f4 h (by rw [← e4, ← f4]; exact hn.solid))
  clear h hn e4 f4
  go_wp2_with (first
    | (refine wpList_alloc_h rfl 66 rfl (.agg #[.slice none 0 0, .int .i64 0]) (by kernel_rfl) #[.slice none 0 0, .int .i64 0] rfl ?_; intro w5 R5 e5 g5 b5; have qR5_R2 : R2 < R5 := Nat.lt_of_lt_of_eq (HL4.out.lt (.head _)) e5; have qR5_H4 : H4 ≤ R5 := Nat.le_trans (HL4.out.hi (.head _)).2 (Nat.le_of_eq e5); have qR5_H1 : H1 ≤ R5 := Nat.le_trans (HL4.out.hi (.tail _ (.head _))).2 (Nat.le_of_eq e5); have HL5 := Lib.hid (show Lg w w5 [(R5, #[.slice none 0 0, .int .i64 0], 66), (R2, #[.slice a1 L.length c1, .int .i64 C], 66)] [(L4, H4, fun W => RsNew vlL 2 142 L4 H4 W a4 L), (L1, H1, fun W => RsNew vlL 2 142 L1 H1 W a1 L)] from HL4.out.box e5 g5 b5); clear g5 b5 e5)
    | (refine wpList_put_at rfl 66 (.tmp 6) (.tmp 18) rfl rfl (R5) 0 rfl (.agg #[.slice a4 L.length c4, .int .i64 C]) rfl #[.slice a4 L.length c4, .int .i64 C] rfl 66 #[.slice none 0 0, .int .i64 0] #[.slice a4 L.length c4, .int .i64 C] (HL5.out.get (.head _)) (by kernel_rfl) (by kernel_rfl) (by kernel_rfl) (by kernel_rfl) ?_; intro w6 g6 o6; have HL6 := Lib.hid (show Lg w w6 [(R5, #[.slice a4 L.length c4, .int .i64 C], 66), (R2, #[.slice a1 L.length c1, .int .i64 C], 66)] [(L4, H4, fun W => RsNew vlL 2 142 L4 H4 W a4 L), (L1, H1, fun W => RsNew vlL 2 142 L1 H1 W a1 L)] from HL5.out.put 0 rfl g6 o6 (List.forall_mem_cons.2 ⟨Nat.ne_of_lt qR5_R2, (fun _ h => nomatch h)⟩) (List.forall_mem_cons.2 ⟨.inl qR5_H4, (List.forall_mem_cons.2 ⟨.inl qR5_H1, (fun _ h => nomatch h)⟩)⟩) rfl); clear g6 o6)
    | (refine wpList_load_at rfl 66 (.tmp 6) rfl (R5) 0 rfl 66 #[.slice a4 L.length c4, .int .i64 C] (0, 0) (HL6.out.get (.head _)) [.slice a4 L.length c4, .int .i64 C] rfl _ Try.underlying66 rfl (by kernel_rfl) ?_)
    | (refine wpList_load_at rfl 66 (.tmp 5) rfl (R2) 0 rfl 66 #[.slice a1 L.length c1, .int .i64 C] (0, 0) (HL6.out.get (.tail _ (.head _))) [.slice a1 L.length c1, .int .i64 C] rfl _ Try.underlying66 rfl (by kernel_rfl) ?_))
  refine (eqValuesOut_same _ _ _ _ _ L _ (HL6.out.at (.head _)).ins (HL6.out.at (.tail _ (.head _))).ins (by omega)).mono ?_
  rintro e w7 ⟨rfl, h⟩
  have HL7 := Lib.hid (show Lg w w7 [(R5, #[.slice a4 L.length c4, .int .i64 C], 66), (R2, #[.slice a1 L.length c1, .int .i64 C], 66)] [(L4, H4, fun W => RsNew vlL 2 142 L4 H4 W a4 L), (L1, H1, fun W => RsNew vlL 2 142 L1 H1 W a1 L)] from HL6.out.kept h)
  clear h
  go_wp2_with (first
    | (refine wpList_load_at rfl 66 (.tmp 6) rfl (R5) 0 rfl 66 #[.slice a4 L.length c4, .int .i64 C] (0, 0) (HL7.out.get (.head _)) [.slice a4 L.length c4, .int .i64 C] rfl _ Try.underlying66 rfl (by kernel_rfl) ?_))
  refine (markValuesOut_1 _ _ _ L _ (HL7.out.at (.head _)) (HL7.out.hi (.head _)).2 (by omega)).mono ?_
  rintro e w8 ⟨rfl, hn, ho⟩
  have HL8 := Lib.hid (show Lg w w8 [(R5, #[.slice a4 L.length c4, .int .i64 C], 66), (R2, #[.slice a1 L.length c1, .int .i64 C], 66)] [(L4, H4, fun W => RsNew vlL 2 142 L4 H4 W a4 (marksVl 1 L.length)), (L1, H1, fun W => RsNew vlL 2 142 L1 H1 W a1 L)] from HL7.out.mark 0 rfl ho hn.solid (List.forall_mem_cons.2 ⟨.inr qR5_H4, (List.forall_mem_cons.2 ⟨.inl qL4_R2, (fun _ h => nomatch h)⟩)⟩) (List.forall_mem_cons.2 ⟨.inl qL4_H1, (fun _ h => nomatch h)⟩) rfl)
  clear hn ho
  go_wp2_with (first
    | (refine wpList_load_at rfl 66 (.tmp 6) rfl (R5) 0 rfl 66 #[.slice a4 L.length c4, .int .i64 C] (0, 0) (HL8.out.get (.head _)) [.slice a4 L.length c4, .int .i64 C] rfl _ Try.underlying66 rfl (by kernel_rfl) ?_))
  refine (heldValuesOut_1 _ _ _ L.length _ (HL8.out.at (.head _)) (by omega)).mono ?_
  rintro e w9 ⟨rfl, h⟩
  have HL9 := Lib.hid (show Lg w w9 [(R5, #[.slice a4 L.length c4, .int .i64 C], 66), (R2, #[.slice a1 L.length c1, .int .i64 C], 66)] [(L4, H4, fun W => RsNew vlL 2 142 L4 H4 W a4 (marksVl 1 L.length)), (L1, H1, fun W => RsNew vlL 2 142 L1 H1 W a1 L)] from HL8.out.kept h)
  clear h
  go_wp2_with fail
  refine ((HIM _).out).mono ?_
  rintro e w10 ⟨a10, c10, rfl, hn, h⟩
  obtain ⟨L10, e10⟩ : ∃ x, w9.heap.size = x := ⟨_, rfl⟩
  obtain ⟨H10, f10⟩ : ∃ x, w10.heap.size = x := ⟨_, rfl⟩
  have qL10_R5 : R5 < L10 := Nat.lt_of_lt_of_eq (HL9.out.lt (.head _)) e10
  have qL10_R2 : R2 < L10 := Nat.lt_of_lt_of_eq (HL9.out.lt (.tail _ (.head _))) e10
  have qL10_H4 : H4 ≤ L10 := Nat.le_trans (HL9.out.hi (.head _)).2 (Nat.le_of_eq e10)
  have qL10_H1 : H1 ≤ L10 := Nat.le_trans (HL9.out.hi (.tail _ (.head _))).2 (Nat.le_of_eq e10)
  have qH10_L10 : L10 ≤ H10 := (by rw [← e10, ← f10]; exact h.size)
  have HL10 := Lib.hid (show Lg w w10 [(R5, #[.slice a4 L.length c4, .int .i64 C], 66), (R2, #[.slice a1 L.length c1, .int .i64 C], 66)] [(L10, H10, fun W => RsNew vlL 2 142 L10 H10 W a10 L), (L4, H4, fun W => RsNew vlL 2 142 L4 H4 W a4 (marksVl 1 L.length)), (L1, H1, fun W => RsNew vlL 2 142 L1 H1 W a1 L)] from HL9.out.made e10 f10 h (by rw [← e10, ← f10]; exact hn.solid))
  clear h hn e10 f10
  go_wp2_with (first
    | (refine wpList_alloc_h rfl 66 rfl (.agg #[.slice none 0 0, .int .i64 0]) (by kernel_rfl) #[.slice none 0 0, .int .i64 0] rfl ?_; intro w11 R11 e11 g11 b11; have qR11_R5 : R5 < R11 := Nat.lt_of_lt_of_eq (HL10.out.lt (.head _)) e11; have qR11_R2 : R2 < R11 := Nat.lt_of_lt_of_eq (HL10.out.lt (.tail _ (.head _))) e11; have qR11_H10 : H10 ≤ R11 := Nat.le_trans (HL10.out.hi (.head _)).2 (Nat.le_of_eq e11); have qR11_H4 : H4 ≤ R11 := Nat.le_trans (HL10.out.hi (.tail _ (.head _))).2 (Nat.le_of_eq e11); have qR11_H1 : H1 ≤ R11 := Nat.le_trans (HL10.out.hi (.tail _ (.tail _ (.head _)))).2 (Nat.le_of_eq e11); have HL11 := Lib.hid (show Lg w w11 [(R11, #[.slice none 0 0, .int .i64 0], 66), (R5, #[.slice a4 L.length c4, .int .i64 C], 66), (R2, #[.slice a1 L.length c1, .int .i64 C], 66)] [(L10, H10, fun W => RsNew vlL 2 142 L10 H10 W a10 L), (L4, H4, fun W => RsNew vlL 2 142 L4 H4 W a4 (marksVl 1 L.length)), (L1, H1, fun W => RsNew vlL 2 142 L1 H1 W a1 L)] from HL10.out.box e11 g11 b11); clear g11 b11 e11)
    | (refine wpList_put_at rfl 66 (.tmp 9) (.tmp 36) rfl rfl (R11) 0 rfl (.agg #[.slice a10 L.length c10, .int .i64 C]) rfl #[.slice a10 L.length c10, .int .i64 C] rfl 66 #[.slice none 0 0, .int .i64 0] #[.slice a10 L.length c10, .int .i64 C] (HL11.out.get (.head _)) (by kernel_rfl) (by kernel_rfl) (by kernel_rfl) (by kernel_rfl) ?_; intro w12 g12 o12; have HL12 := Lib.hid (show Lg w w12 [(R11, #[.slice a10 L.length c10, .int .i64 C], 66), (R5, #[.slice a4 L.length c4, .int .i64 C], 66), (R2, #[.slice a1 L.length c1, .int .i64 C], 66)] [(L10, H10, fun W => RsNew vlL 2 142 L10 H10 W a10 L), (L4, H4, fun W => RsNew vlL 2 142 L4 H4 W a4 (marksVl 1 L.length)), (L1, H1, fun W => RsNew vlL 2 142 L1 H1 W a1 L)] from HL11.out.put 0 rfl g12 o12 (List.forall_mem_cons.2 ⟨Nat.ne_of_lt qR11_R5, (List.forall_mem_cons.2 ⟨Nat.ne_of_lt qR11_R2, (fun _ h => nomatch h)⟩)⟩) (List.forall_mem_cons.2 ⟨.inl qR11_H10, (List.forall_mem_cons.2 ⟨.inl qR11_H4, (List.forall_mem_cons.2 ⟨.inl qR11_H1, (fun _ h => nomatch h)⟩)⟩)⟩) rfl); clear g12 o12)
    | (refine wpList_load_at rfl 66 (.tmp 9) rfl (R11) 0 rfl 66 #[.slice a10 L.length c10, .int .i64 C] (0, 0) (HL12.out.get (.head _)) [.slice a10 L.length c10, .int .i64 C] rfl _ Try.underlying66 rfl (by kernel_rfl) ?_)
    | (refine wpList_load_at rfl 66 (.tmp 5) rfl (R2) 0 rfl 66 #[.slice a1 L.length c1, .int .i64 C] (0, 0) (HL12.out.get (.tail _ (.tail _ (.head _)))) [.slice a1 L.length c1, .int .i64 C] rfl _ Try.underlying66 rfl (by kernel_rfl) ?_))
  refine (eqValuesOut_same _ _ _ _ _ L _ (HL12.out.at (.head _)).ins (HL12.out.at (.tail _ (.tail _ (.head _)))).ins (by omega)).mono ?_
  rintro e w13 ⟨rfl, h⟩
  have HL13 := Lib.hid (show Lg w w13 [(R11, #[.slice a10 L.length c10, .int .i64 C], 66), (R5, #[.slice a4 L.length c4, .int .i64 C], 66), (R2, #[.slice a1 L.length c1, .int .i64 C], 66)] [(L10, H10, fun W => RsNew vlL 2 142 L10 H10 W a10 L), (L4, H4, fun W => RsNew vlL 2 142 L4 H4 W a4 (marksVl 1 L.length)), (L1, H1, fun W => RsNew vlL 2 142 L1 H1 W a1 L)] from HL12.out.kept h)
  clear h
  go_wp2_with (first
    | (refine wpList_load_at rfl 66 (.tmp 6) rfl (R5) 0 rfl 66 #[.slice a4 L.length c4, .int .i64 C] (0, 0) (HL13.out.get (.tail _ (.head _))) [.slice a4 L.length c4, .int .i64 C] rfl _ Try.underlying66 rfl (by kernel_rfl) ?_))
  refine (heldValuesOut_1 _ _ _ L.length _ (HL13.out.at (.tail _ (.head _))) (by omega)).mono ?_
  rintro e w14 ⟨rfl, h⟩
  have HL14 := Lib.hid (show Lg w w14 [(R11, #[.slice a10 L.length c10, .int .i64 C], 66), (R5, #[.slice a4 L.length c4, .int .i64 C], 66), (R2, #[.slice a1 L.length c1, .int .i64 C], 66)] [(L10, H10, fun W => RsNew vlL 2 142 L10 H10 W a10 L), (L4, H4, fun W => RsNew vlL 2 142 L4 H4 W a4 (marksVl 1 L.length)), (L1, H1, fun W => RsNew vlL 2 142 L1 H1 W a1 L)] from HL13.out.kept h)
  clear h
  go_wp2_with fail
  go_ret
  exact ⟨rfl, HL14.out.below⟩

set_option maxRecDepth 100000 in
theorem lifted (os : Os) (started : os.Started) (H : Type) (enc : TypeId × Value → H) :
    ReturnsInHanded {} Try.checked os 11 .any (Rows.fnExactDecodeSpec.pre6 enc Try.prog Try.f11 Rows.fnExactDecodeRow.domain false) (Rows.fnExactDecodeSpec.post enc Try.prog Try.f11 false true false false) := by
  refine returnsInHanded_of_change (C := Try.checked) own started (by kernel_rfl) Try.func11
    (ChangeSpec.witness6 (enc := enc) (C := Try.checked) false ⟨#[], #[.int .i64 0, .string ByteArray.empty], []⟩ 8 (by kernel_rfl) (by kernel_rfl) (by kernel_rfl) (by kernel_rfl)) ?_
  intro W base args ds gs before hval0 hW hcnd _
  have hval : ∀ (j : Nat) t v, Try.f11.params[j]? = some t → args[j]? = some v → Value.okWide Try.prog W .any base t v := hval0
  have hW' := hW
  obtain ⟨p, q, hA0, hV, rfl, hfz, hnd⟩ := hW
  have hA : DataW.TrodAll enc Try.prog W 0 (fun _ => true) true Try.f11.params.toList args.toList ds p := hA0
  rw [Try.params11] at hA hval
  obtain ⟨v0, vs0, d0, ds0, p0, q0, hargs, rfl, rfl, h0, r0⟩ := trodAll_cons hA
  obtain ⟨v1, vs1, d1, ds1, p1, q1, rfl, rfl, rfl, h1, r1⟩ := trodAll_cons r0
  obtain ⟨rfl, rfl, rfl⟩ := trodAll_nil r1
  obtain rfl : args = #[v0, v1] := by cases args; simp_all
  obtain ⟨rfl, rfl⟩ := trodVars_none hV
  obtain ⟨a0, rfl, rfl, rfl, w0⟩ := open_int Try.underlying2 (hval 0 2 v0 rfl rfl) h0
  obtain ⟨a1, rfl, rfl, rfl, w1⟩ := open_string Try.underlying9 (hval 1 9 v1 rfl rfl) h1
  clear hA0 hval0
  simp only [List.append_nil] at hW'
  refine (walk a0 a1 w0 w1 W).mono fun e W' ⟨he, hg⟩ => ?_
  subst he
  exact ⟨_, rfl, _, _, _, [], [], [], hW', (trodAll_cons_mk (shut_bool Try.underlying4 _) trodAll_mk0), (trodAll_cons_mk (shut_int Try.underlying2 w0) (trodAll_cons_mk (shut_string Try.underlying9 w1) trodAll_mk0)), rfl, hg.frame _, fun h => by cases h⟩

theorem over : Rows.fnExactDecodeRow.holds Try.pinned (OpenSpec.ofChange Rows.fnExactDecodeSpec) :=
  OpenClaim.holds_of_wide 11 Try.f11 rfl rfl rfl rfl rfl rfl rfl ⟨rfl, rfl, rfl, rfl, rfl⟩ rfl rfl rfl rfl rfl (by kernel_rfl) Try.func11 (by kernel_rfl)
    (of_decide_eq_true (by kernel_rfl)) (by unfold Func.isWrapper; first | (rw [if_pos (by decide +kernel)]; kernel_rfl) | (rw [if_neg (by decide +kernel)]; exact ⟨rfl, rfl⟩))
    (fun os started H enc _ => lifted os started H enc)

/-- ████ THE STATEMENT ████ -/
theorem proved : Rows.FnExactDecodeSaid :=
  over
#print axioms proved
end Go.Proofs.Ytanijfmfjabmfaa.fnExactDecode
