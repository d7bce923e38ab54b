/- For every list of Devices the program's DeviceTick answers as the model's DeviceTick does, in memory of its own. -/
import Derived.Test.YtpolpkheaibonaaRows
import Derived.Test.YtpolpkheaibonaaDevAll
import Derived.WalkKit
import Derived.ProofKit
import Derived.OpenShut
import Derived.ShutString
import Derived.ChangeOld
import Derived.Below
import Derived.Carry
namespace Go.Proofs.Ytpolpkheaibonaa.fnExactDeviceTick
open Go.ChangeShapes Go.WideShapes Go.ChangeAt Go.RowKit
open Go.ChangeMaps (open_string shut_string)
set_option linter.unusedVariables false

theorem own : ownKnob Try.prog.godebug = none := by kernel_rfl

set_option maxRecDepth 100000 in
set_option maxHeartbeats 8000000 in
theorem walk (w : World) (v0 : Value) (k0 : IsDvs w v0) :
    Calls Try.prog 3 #[v0] w fun e w' => e = .returned (.bool true) ∧ Below w.heap.size w w' := by
  obtain ⟨a, cap, l, rfl, hin, hok, hlen⟩ := k0
  have HS := Lib.hid (szDeviceS_any a cap l.length w hlen)
  have HI := Lib.hid hin
  have HT := Lib.hid (show l.length ≤ maxLen from hlen)
  go_enter Try.func3, Try.ntmps3
  go_wp2_with fail
  refine HS.out.mono ?_
  rintro e w1 ⟨m, rfl, hm2, h1⟩
  by_cases hneg : m < 0
  · have hd : decide (m < 0) = true := decide_eq_true hneg
    go_wp2_with fail
    go_ret
    exact ⟨rfl, h1⟩
  have hd : decide (m < 0) = false := decide_eq_false hneg
  have hl : l.length ≤ 1048576 := hm2 (by omega)
  have HL1 := Lib.hid (show Lg w w1 [] [] from (Lg.first w).kept h1)
  clear hm2 hneg hin hlen hok h1 HS
  obtain ⟨L, hL⟩ : ∃ L, tickDV l = L := ⟨_, rfl⟩
  have hL8 : L.length ≤ 8 := hL ▸ tickDV_len l
  have HSP := fun W b c h => Lib.hid (specDeviceTick_any b c l W h HT.out)
  have HIM := fun W b h => Lib.hid (implDeviceTick_any b l.length l W h HT.out (Nat.le_refl _))
  unfold DvOut at HSP HIM
  rw [hL] at HSP HIM
  clear hL
  have g1 : decide (((1 + 10 * L.length : Nat) : Int) < 0) = false := decide_eq_false (by omega)
  have g2 : decide (((1 + 10 * l.length : Nat) : Int) < 0) = false := decide_eq_false (by omega)
  have g3 : (((1 + 10 * L.length : Nat) : Int) != ((1 + 10 * L.length : Nat) : Int)) = false := by simp
  go_wp2_with fail
  refine ((toDeviceS_new a cap l _ (HI.out.kept HL1.out.below) hl)).mono ?_
  rintro e w2 ⟨a2, rfl, hn, h⟩
  obtain ⟨L2, e2⟩ : ∃ x, w1.heap.size = x := ⟨_, rfl⟩
  obtain ⟨H2, f2⟩ : ∃ x, w2.heap.size = x := ⟨_, rfl⟩
  have qH2_L2 : L2 ≤ H2 := (by rw [← e2, ← f2]; exact h.size)
  have HL2 := Lib.hid (show Lg w w2 [] [(L2, H2, fun W => RsNew dvL 10 78 L2 H2 W a2 l)] from HL1.out.made e2 f2 h (by rw [← e2, ← f2]; exact hn.solid))
  clear h hn e2 f2
  go_wp2_with fail
  refine (((HSP _ _ _ (HL2.out.at (.head _)).ins).out)).mono ?_
  rintro e w3 ⟨a3, c3, rfl, hn, h⟩
  obtain ⟨L3, e3⟩ : ∃ x, w2.heap.size = x := ⟨_, rfl⟩
  obtain ⟨H3, f3⟩ : ∃ x, w3.heap.size = x := ⟨_, rfl⟩
  have qL3_H2 : H2 ≤ L3 := Nat.le_trans (HL2.out.hi (.head _)).2 (Nat.le_of_eq e3)
  have qH3_L3 : L3 ≤ H3 := (by rw [← e3, ← f3]; exact h.size)
  have HL3 := Lib.hid (show Lg w w3 [] [(L3, H3, fun W => RsNew dvL 10 78 L3 H3 W a3 L), (L2, H2, fun W => RsNew dvL 10 78 L2 H2 W a2 l)] from HL2.out.made e3 f3 h (by rw [← e3, ← f3]; exact hn.solid))
  clear h hn e3 f3
  go_wp2_with fail
  refine ((toDeviceS_new a cap l _ (HI.out.kept HL3.out.below) hl)).mono ?_
  rintro e w4 ⟨a4, rfl, hn, h⟩
  obtain ⟨L4, e4⟩ : ∃ x, w3.heap.size = x := ⟨_, rfl⟩
  obtain ⟨H4, f4⟩ : ∃ x, w4.heap.size = x := ⟨_, rfl⟩
  have qL4_H3 : H3 ≤ L4 := Nat.le_trans (HL3.out.hi (.head _)).2 (Nat.le_of_eq e4)
  have qL4_H2 : H2 ≤ L4 := Nat.le_trans (HL3.out.hi (.tail _ (.head _))).2 (Nat.le_of_eq e4)
  have qH4_L4 : L4 ≤ H4 := (by rw [← e4, ← f4]; exact h.size)
  have HL4 := Lib.hid (show Lg w w4 [] [(L4, H4, fun W => RsNew dvL 10 78 L4 H4 W a4 l), (L3, H3, fun W => RsNew dvL 10 78 L3 H3 W a3 L), (L2, H2, fun W => RsNew dvL 10 78 L2 H2 W a2 l)] from HL3.out.made e4 f4 h (by rw [← e4, ← f4]; exact hn.solid))
  clear h hn e4 f4
  go_wp2_with fail
  refine (((HIM _ _ (HL4.out.at (.head _)).ins).out)).mono ?_
  rintro e w5 ⟨a5, c5, rfl, hn, h⟩
  obtain ⟨L5, e5⟩ : ∃ x, w4.heap.size = x := ⟨_, rfl⟩
  obtain ⟨H5, f5⟩ : ∃ x, w5.heap.size = x := ⟨_, rfl⟩
  have qL5_H4 : H4 ≤ L5 := Nat.le_trans (HL4.out.hi (.head _)).2 (Nat.le_of_eq e5)
  have qL5_H3 : H3 ≤ L5 := Nat.le_trans (HL4.out.hi (.tail _ (.head _))).2 (Nat.le_of_eq e5)
  have qL5_H2 : H2 ≤ L5 := Nat.le_trans (HL4.out.hi (.tail _ (.tail _ (.head _)))).2 (Nat.le_of_eq e5)
  have qH5_L5 : L5 ≤ H5 := (by rw [← e5, ← f5]; exact h.size)
  have HL5 := Lib.hid (show Lg w w5 [] [(L5, H5, fun W => RsNew dvL 10 78 L5 H5 W a5 L), (L4, H4, fun W => RsNew dvL 10 78 L4 H4 W a4 l), (L3, H3, fun W => RsNew dvL 10 78 L3 H3 W a3 L), (L2, H2, fun W => RsNew dvL 10 78 L2 H2 W a2 l)] from HL4.out.made e5 f5 h (by rw [← e5, ← f5]; exact hn.solid))
  clear h hn e5 f5
  go_wp2_with fail
  refine ((eqDeviceS_same _ _ _ _ L _ (HL5.out.at (.head _)).ins (HL5.out.at (.tail _ (.tail _ (.head _)))).ins (by omega))).mono ?_
  rintro e w6 ⟨rfl, h⟩
  have HL6 := Lib.hid (show Lg w w6 [] [(L5, H5, fun W => RsNew dvL 10 78 L5 H5 W a5 L), (L4, H4, fun W => RsNew dvL 10 78 L4 H4 W a4 l), (L3, H3, fun W => RsNew dvL 10 78 L3 H3 W a3 L), (L2, H2, fun W => RsNew dvL 10 78 L2 H2 W a2 l)] from HL5.out.kept h)
  clear h
  go_wp2_with fail
  refine ((toDeviceS_new a cap l _ (HI.out.kept HL6.out.below) hl)).mono ?_
  rintro e w7 ⟨a7, rfl, hn, h⟩
  obtain ⟨L7, e7⟩ : ∃ x, w6.heap.size = x := ⟨_, rfl⟩
  obtain ⟨H7, f7⟩ : ∃ x, w7.heap.size = x := ⟨_, rfl⟩
  have qL7_H5 : H5 ≤ L7 := Nat.le_trans (HL6.out.hi (.head _)).2 (Nat.le_of_eq e7)
  have qL7_H4 : H4 ≤ L7 := Nat.le_trans (HL6.out.hi (.tail _ (.head _))).2 (Nat.le_of_eq e7)
  have qL7_H3 : H3 ≤ L7 := Nat.le_trans (HL6.out.hi (.tail _ (.tail _ (.head _)))).2 (Nat.le_of_eq e7)
  have qL7_H2 : H2 ≤ L7 := Nat.le_trans (HL6.out.hi (.tail _ (.tail _ (.tail _ (.head _))))).2 (Nat.le_of_eq e7)
  have qH7_L7 : L7 ≤ H7 := (by rw [← e7, ← f7]; exact h.size)
  have HL7 := Lib.hid (show Lg w w7 [] [(L7, H7, fun W => RsNew dvL 10 78 L7 H7 W a7 l), (L5, H5, fun W => RsNew dvL 10 78 L5 H5 W a5 L), (L4, H4, fun W => RsNew dvL 10 78 L4 H4 W a4 l), (L3, H3, fun W => RsNew dvL 10 78 L3 H3 W a3 L), (L2, H2, fun W => RsNew dvL 10 78 L2 H2 W a2 l)] from HL6.out.made e7 f7 h (by rw [← e7, ← f7]; exact hn.solid))
  clear h hn e7 f7
  go_wp2_with fail
  refine ((eqDeviceS_same _ _ _ _ l _ (HL7.out.at (.tail _ (.tail _ (.head _)))).ins (HL7.out.at (.head _)).ins hl)).mono ?_
  rintro e w8 ⟨rfl, h⟩
  have HL8 := Lib.hid (show Lg w w8 [] [(L7, H7, fun W => RsNew dvL 10 78 L7 H7 W a7 l), (L5, H5, fun W => RsNew dvL 10 78 L5 H5 W a5 L), (L4, H4, fun W => RsNew dvL 10 78 L4 H4 W a4 l), (L3, H3, fun W => RsNew dvL 10 78 L3 H3 W a3 L), (L2, H2, fun W => RsNew dvL 10 78 L2 H2 W a2 l)] from HL7.out.kept h)
  clear h
  go_wp2_with fail
  refine (markDvs_1 _ _ l _ (HL8.out.at (.tail _ (.tail _ (.head _)))) (by omega)).mono ?_
  rintro e w9 ⟨rfl, hn, ho⟩
  have HL9 := Lib.hid (show Lg w w9 [] [(L7, H7, fun W => RsNew dvL 10 78 L7 H7 W a7 l), (L5, H5, fun W => RsNew dvL 10 78 L5 H5 W a5 L), (L4, H4, fun W => RsNew dvL 10 78 L4 H4 W a4 (marksDv 1 l.length)), (L3, H3, fun W => RsNew dvL 10 78 L3 H3 W a3 L), (L2, H2, fun W => RsNew dvL 10 78 L2 H2 W a2 l)] from HL8.out.mark 2 rfl ho hn.solid (fun _ h => nomatch h) (List.forall_mem_cons.2 ⟨.inr qL7_H4, (List.forall_mem_cons.2 ⟨.inr qL5_H4, (List.forall_mem_cons.2 ⟨.inl qL4_H3, (List.forall_mem_cons.2 ⟨.inl qL4_H2, (fun _ h => nomatch h)⟩)⟩)⟩)⟩) rfl)
  clear hn ho
  go_wp2_with fail
  refine ((eqDeviceS_same _ _ _ _ L _ (HL9.out.at (.tail _ (.head _))).ins (HL9.out.at (.tail _ (.tail _ (.tail _ (.head _))))).ins (by omega))).mono ?_
  rintro e w10 ⟨rfl, h⟩
  have HL10 := Lib.hid (show Lg w w10 [] [(L7, H7, fun W => RsNew dvL 10 78 L7 H7 W a7 l), (L5, H5, fun W => RsNew dvL 10 78 L5 H5 W a5 L), (L4, H4, fun W => RsNew dvL 10 78 L4 H4 W a4 (marksDv 1 l.length)), (L3, H3, fun W => RsNew dvL 10 78 L3 H3 W a3 L), (L2, H2, fun W => RsNew dvL 10 78 L2 H2 W a2 l)] from HL9.out.kept h)
  clear h
  go_wp2_with fail
  refine (markDvs_1 _ _ L _ (HL10.out.at (.tail _ (.head _))) (by omega)).mono ?_
  rintro e w11 ⟨rfl, hn, ho⟩
  have HL11 := Lib.hid (show Lg w w11 [] [(L7, H7, fun W => RsNew dvL 10 78 L7 H7 W a7 l), (L5, H5, fun W => RsNew dvL 10 78 L5 H5 W a5 (marksDv 1 L.length)), (L4, H4, fun W => RsNew dvL 10 78 L4 H4 W a4 (marksDv 1 l.length)), (L3, H3, fun W => RsNew dvL 10 78 L3 H3 W a3 L), (L2, H2, fun W => RsNew dvL 10 78 L2 H2 W a2 l)] from HL10.out.mark 1 rfl ho hn.solid (fun _ h => nomatch h) (List.forall_mem_cons.2 ⟨.inr qL7_H5, (List.forall_mem_cons.2 ⟨.inl qL5_H4, (List.forall_mem_cons.2 ⟨.inl qL5_H3, (List.forall_mem_cons.2 ⟨.inl qL5_H2, (fun _ h => nomatch h)⟩)⟩)⟩)⟩) rfl)
  clear hn ho
  go_wp2_with fail
  refine ((heldDvs_1 _ _ L.length _ (HL11.out.at (.tail _ (.head _))) (by omega))).mono ?_
  rintro e w12 ⟨rfl, h⟩
  have HL12 := Lib.hid (show Lg w w12 [] [(L7, H7, fun W => RsNew dvL 10 78 L7 H7 W a7 l), (L5, H5, fun W => RsNew dvL 10 78 L5 H5 W a5 (marksDv 1 L.length)), (L4, H4, fun W => RsNew dvL 10 78 L4 H4 W a4 (marksDv 1 l.length)), (L3, H3, fun W => RsNew dvL 10 78 L3 H3 W a3 L), (L2, H2, fun W => RsNew dvL 10 78 L2 H2 W a2 l)] from HL11.out.kept h)
  clear h
  go_wp2_with fail
  refine ((toDeviceS_new a cap l _ (HI.out.kept HL12.out.below) hl)).mono ?_
  rintro e w13 ⟨a13, rfl, hn, h⟩
  obtain ⟨L13, e13⟩ : ∃ x, w12.heap.size = x := ⟨_, rfl⟩
  obtain ⟨H13, f13⟩ : ∃ x, w13.heap.size = x := ⟨_, rfl⟩
  have qL13_H7 : H7 ≤ L13 := Nat.le_trans (HL12.out.hi (.head _)).2 (Nat.le_of_eq e13)
  have qL13_H5 : H5 ≤ L13 := Nat.le_trans (HL12.out.hi (.tail _ (.head _))).2 (Nat.le_of_eq e13)
  have qL13_H4 : H4 ≤ L13 := Nat.le_trans (HL12.out.hi (.tail _ (.tail _ (.head _)))).2 (Nat.le_of_eq e13)
  have qL13_H3 : H3 ≤ L13 := Nat.le_trans (HL12.out.hi (.tail _ (.tail _ (.tail _ (.head _))))).2 (Nat.le_of_eq e13)
  have qL13_H2 : H2 ≤ L13 := Nat.le_trans (HL12.out.hi (.tail _ (.tail _ (.tail _ (.tail _ (.head _)))))).2 (Nat.le_of_eq e13)
  have qH13_L13 : L13 ≤ H13 := (by rw [← e13, ← f13]; exact h.size)
  have HL13 := Lib.hid (show Lg w w13 [] [(L13, H13, fun W => RsNew dvL 10 78 L13 H13 W a13 l), (L7, H7, fun W => RsNew dvL 10 78 L7 H7 W a7 l), (L5, H5, fun W => RsNew dvL 10 78 L5 H5 W a5 (marksDv 1 L.length)), (L4, H4, fun W => RsNew dvL 10 78 L4 H4 W a4 (marksDv 1 l.length)), (L3, H3, fun W => RsNew dvL 10 78 L3 H3 W a3 L), (L2, H2, fun W => RsNew dvL 10 78 L2 H2 W a2 l)] from HL12.out.made e13 f13 h (by rw [← e13, ← f13]; exact hn.solid))
  clear h hn e13 f13
  go_wp2_with fail
  refine (((HIM _ _ (HL13.out.at (.head _)).ins).out)).mono ?_
  rintro e w14 ⟨a14, c14, rfl, hn, h⟩
  obtain ⟨L14, e14⟩ : ∃ x, w13.heap.size = x := ⟨_, rfl⟩
  obtain ⟨H14, f14⟩ : ∃ x, w14.heap.size = x := ⟨_, rfl⟩
  have qL14_H13 : H13 ≤ L14 := Nat.le_trans (HL13.out.hi (.head _)).2 (Nat.le_of_eq e14)
  have qL14_H7 : H7 ≤ L14 := Nat.le_trans (HL13.out.hi (.tail _ (.head _))).2 (Nat.le_of_eq e14)
  have qL14_H5 : H5 ≤ L14 := Nat.le_trans (HL13.out.hi (.tail _ (.tail _ (.head _)))).2 (Nat.le_of_eq e14)
  have qL14_H4 : H4 ≤ L14 := Nat.le_trans (HL13.out.hi (.tail _ (.tail _ (.tail _ (.head _))))).2 (Nat.le_of_eq e14)
  have qL14_H3 : H3 ≤ L14 := Nat.le_trans (HL13.out.hi (.tail _ (.tail _ (.tail _ (.tail _ (.head _)))))).2 (Nat.le_of_eq e14)
  have qL14_H2 : H2 ≤ L14 := Nat.le_trans (HL13.out.hi (.tail _ (.tail _ (.tail _ (.tail _ (.tail _ (.head _))))))).2 (Nat.le_of_eq e14)
  have qH14_L14 : L14 ≤ H14 := (by rw [← e14, ← f14]; exact h.size)
  have HL14 := Lib.hid (show Lg w w14 [] [(L14, H14, fun W => RsNew dvL 10 78 L14 H14 W a14 L), (L13, H13, fun W => RsNew dvL 10 78 L13 H13 W a13 l), (L7, H7, fun W => RsNew dvL 10 78 L7 H7 W a7 l), (L5, H5, fun W => RsNew dvL 10 78 L5 H5 W a5 (marksDv 1 L.length)), (L4, H4, fun W => RsNew dvL 10 78 L4 H4 W a4 (marksDv 1 l.length)), (L3, H3, fun W => RsNew dvL 10 78 L3 H3 W a3 L), (L2, H2, fun W => RsNew dvL 10 78 L2 H2 W a2 l)] from HL13.out.made e14 f14 h (by rw [← e14, ← f14]; exact hn.solid))
  clear h hn e14 f14
  go_wp2_with fail
  refine ((eqDeviceS_same _ _ _ _ L _ (HL14.out.at (.head _)).ins (HL14.out.at (.tail _ (.tail _ (.tail _ (.tail _ (.tail _ (.head _))))))).ins (by omega))).mono ?_
  rintro e w15 ⟨rfl, h⟩
  have HL15 := Lib.hid (show Lg w w15 [] [(L14, H14, fun W => RsNew dvL 10 78 L14 H14 W a14 L), (L13, H13, fun W => RsNew dvL 10 78 L13 H13 W a13 l), (L7, H7, fun W => RsNew dvL 10 78 L7 H7 W a7 l), (L5, H5, fun W => RsNew dvL 10 78 L5 H5 W a5 (marksDv 1 L.length)), (L4, H4, fun W => RsNew dvL 10 78 L4 H4 W a4 (marksDv 1 l.length)), (L3, H3, fun W => RsNew dvL 10 78 L3 H3 W a3 L), (L2, H2, fun W => RsNew dvL 10 78 L2 H2 W a2 l)] from HL14.out.kept h)
  clear h
  go_wp2_with fail
  refine ((heldDvs_1 _ _ L.length _ (HL15.out.at (.tail _ (.tail _ (.tail _ (.head _))))) (by omega))).mono ?_
  rintro e w16 ⟨rfl, h⟩
  have HL16 := Lib.hid (show Lg w w16 [] [(L14, H14, fun W => RsNew dvL 10 78 L14 H14 W a14 L), (L13, H13, fun W => RsNew dvL 10 78 L13 H13 W a13 l), (L7, H7, fun W => RsNew dvL 10 78 L7 H7 W a7 l), (L5, H5, fun W => RsNew dvL 10 78 L5 H5 W a5 (marksDv 1 L.length)), (L4, H4, fun W => RsNew dvL 10 78 L4 H4 W a4 (marksDv 1 l.length)), (L3, H3, fun W => RsNew dvL 10 78 L3 H3 W a3 L), (L2, H2, fun W => RsNew dvL 10 78 L2 H2 W a2 l)] from HL15.out.kept h)
  clear h
  go_wp2_with fail
  go_ret
  exact ⟨rfl, HL16.out.below⟩

set_option maxRecDepth 100000 in
theorem lifted (os : Os) (started : os.Started) (H : Type) (enc : TypeId × Value → H) :
    ReturnsInHanded {} Try.checked os 3 .any (Rows.fnExactDeviceTickSpec.pre6 enc Try.prog Try.f3 Rows.fnExactDeviceTickRow.domain false) (Rows.fnExactDeviceTickSpec.post enc Try.prog Try.f3 false true false false) := by
  refine returnsInHanded_of_change (C := Try.checked) own started (by kernel_rfl) Try.func3
    (ChangeSpec.witness6 (enc := enc) (C := Try.checked) false ⟨#[], #[.slice none 0 0], []⟩ 8 (by kernel_rfl) (by kernel_rfl) (by kernel_rfl) (by kernel_rfl)) ?_
  intro W base args ds gs before hval0 hW hcnd _
  have hval : ∀ (j : Nat) t v, Try.f3.params[j]? = some t → args[j]? = some v → Value.okWide Try.prog W .any base t v := hval0
  have hW' := hW
  obtain ⟨p, q, hA0, hV, rfl, hfz, hnd⟩ := hW
  have hlt := DataW.TrodAll.lt hA0
  have hA : DataW.TrodAll enc Try.prog W 0 (fun _ => true) true Try.f3.params.toList args.toList ds p := hA0
  rw [Try.params3] at hA hval
  obtain ⟨v0, vs0, d0, ds0, p0, q0, hargs, rfl, rfl, h0, r0⟩ := trodAll_cons hA
  obtain ⟨rfl, rfl, rfl⟩ := trodAll_nil r0
  obtain rfl : args = #[v0] := by cases args; simp_all
  obtain ⟨rfl, rfl⟩ := trodVars_none hV
  have l0 : ∀ x ∈ p0, x.block < W.heap.size := fun x hx => hlt x (by simp [hx])
  have k0 := open_Dvs (hval 0 22 v0 rfl rfl) h0
  clear hA0 hval0
  simp only [List.append_nil] at hW'
  refine (walk W v0 k0).mono fun e W' ⟨he, hg⟩ => ?_
  subst he
  exact ⟨_, rfl, _, _, _, [], _, [], hW', (trodAll_cons_mk (shut_bool Try.underlying4 _) trodAll_mk0), (trodAll_cons_mk (Below.trod (by kernel_rfl) (by kernel_rfl) (of_decide_eq_true (by kernel_rfl)) h0 hg l0) trodAll_mk0), rfl, hg.frame _, fun h => by cases h⟩

theorem over : Rows.fnExactDeviceTickRow.holds Try.pinned (OpenSpec.ofChange Rows.fnExactDeviceTickSpec) :=
  OpenClaim.holds_of_wide 3 Try.f3 rfl rfl rfl rfl rfl rfl rfl ⟨rfl, rfl, rfl, rfl, rfl⟩ rfl rfl rfl rfl rfl (by kernel_rfl) Try.func3 (by kernel_rfl)
    (of_decide_eq_true (by kernel_rfl)) (by unfold Func.isWrapper; first | (rw [if_pos (by decide +kernel)]; kernel_rfl) | (rw [if_neg (by decide +kernel)]; exact ⟨rfl, rfl⟩))
    (fun os started H enc _ => lifted os started H enc)

/-- ████ THE STATEMENT ████ -/
theorem proved : Rows.FnExactDeviceTickSaid :=
  over
#print axioms proved
end Go.Proofs.Ytpolpkheaibonaa.fnExactDeviceTick
