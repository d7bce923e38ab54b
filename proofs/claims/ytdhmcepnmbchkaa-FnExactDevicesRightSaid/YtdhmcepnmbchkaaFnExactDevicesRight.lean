/- For every list of Devices the program's DevicesRight answers as the model's DevicesRight does, and the list stays as it was. -/
import Derived.Test.YtdhmcepnmbchkaaRows
import Derived.Test.YtdhmcepnmbchkaaDvRight
import Derived.Test.YtdhmcepnmbchkaaOpenDvs
import Derived.WalkKit
import Derived.ProofKit
import Derived.OpenShut
import Derived.ShutString
import Derived.ChangeOld
import Derived.Below
import Derived.Carry
namespace Go.Proofs.Ytdhmcepnmbchkaa.fnExactDevicesRight
open Go.ChangeShapes Go.WideShapes Go.ChangeAt Go.RowKit
open Go.ChangeMaps (open_string shut_string)
set_option linter.unusedVariables false

theorem own : ownKnob Try.prog.godebug = none := by kernel_rfl

set_option maxRecDepth 100000 in
set_option maxHeartbeats 8000000 in
theorem walk (w : World) (v0 : Value) (k0 : IsDvs w v0) :
    Calls Try.prog 4 #[v0] w fun e w' => e = .returned (.bool true) ∧ Below w.heap.size w w' := by
  obtain ⟨a, cap, l, rfl, hin, hok, hlen⟩ := k0
  have HS := Lib.hid (szDeviceS_any a cap l.length w hlen)
  have HI := Lib.hid hin
  go_enter Try.func4, Try.ntmps4
  go_wp2_with fail
  refine HS.out.mono ?_
  rintro e w1 ⟨m, rfl, hm2, h1⟩
  by_cases hneg : m < 0
  · have hd : decide (m < 0) = true := decide_eq_true hneg
    go_wp2_with fail
    go_ret
    exact ⟨rfl, h1⟩
  have hd : decide (m < 0) = false := decide_eq_false hneg
  have hl : l.length ≤ 1048576 := hm2 (by omega)
  have HL1 := Lib.hid (show Lg w w1 [] [] from (Lg.first w).kept h1)
  have HSP := fun W b c h => Lib.hid (specDevicesRight_any b c l W h hlen)
  have HIM := fun W b h => Lib.hid (implDevicesRight_any b l.length l W h hlen (Nat.le_refl _))
  generalize dvsB l = V at *
  have g3 : (V != V) = false := by simp
  clear hm2 hneg hin hok hlen HS h1
  go_wp2_with fail
  refine ((toDeviceS_new a cap l _ (HI.out.kept HL1.out.below) hl)).mono ?_
  rintro e w2 ⟨a2, rfl, hn, h⟩
  obtain ⟨L2, e2⟩ : ∃ x, w1.heap.size = x := ⟨_, rfl⟩
  obtain ⟨H2, f2⟩ : ∃ x, w2.heap.size = x := ⟨_, rfl⟩
  have qH2_L2 : L2 ≤ H2 := (by rw [← e2, ← f2]; exact h.size)
  have HL2 := Lib.hid (show Lg w w2 [] [(L2, H2, fun W => RsNew dvL 10 97 L2 H2 W a2 l)] from HL1.out.made e2 f2 h (by rw [← e2, ← f2]; exact hn.solid))
  clear h hn e2 f2
  go_wp2_with fail
  refine ((HSP _ _ _ (HL2.out.at (.head _)).ins).out).mono ?_
  rintro e w3 ⟨rfl, h⟩
  have HL3 := Lib.hid (show Lg w w3 [] [(L2, H2, fun W => RsNew dvL 10 97 L2 H2 W a2 l)] from HL2.out.kept h)
  clear h
  go_wp2_with fail
  refine ((toDeviceS_new a cap l _ (HI.out.kept HL3.out.below) hl)).mono ?_
  rintro e w4 ⟨a4, rfl, hn, h⟩
  obtain ⟨L4, e4⟩ : ∃ x, w3.heap.size = x := ⟨_, rfl⟩
  obtain ⟨H4, f4⟩ : ∃ x, w4.heap.size = x := ⟨_, rfl⟩
  have qL4_H2 : H2 ≤ L4 := Nat.le_trans (HL3.out.hi (.head _)).2 (Nat.le_of_eq e4)
  have qH4_L4 : L4 ≤ H4 := (by rw [← e4, ← f4]; exact h.size)
  have HL4 := Lib.hid (show Lg w w4 [] [(L4, H4, fun W => RsNew dvL 10 97 L4 H4 W a4 l), (L2, H2, fun W => RsNew dvL 10 97 L2 H2 W a2 l)] from HL3.out.made e4 f4 h (by rw [← e4, ← f4]; exact hn.solid))
  clear h hn e4 f4
  go_wp2_with fail
  refine ((HIM _ _ (HL4.out.at (.head _)).ins).out).mono ?_
  rintro e w5 ⟨rfl, h⟩
  have HL5 := Lib.hid (show Lg w w5 [] [(L4, H4, fun W => RsNew dvL 10 97 L4 H4 W a4 l), (L2, H2, fun W => RsNew dvL 10 97 L2 H2 W a2 l)] from HL4.out.kept h)
  clear h
  go_wp2_with fail
  refine ((toDeviceS_new a cap l _ (HI.out.kept HL5.out.below) hl)).mono ?_
  rintro e w6 ⟨a6, rfl, hn, h⟩
  obtain ⟨L6, e6⟩ : ∃ x, w5.heap.size = x := ⟨_, rfl⟩
  obtain ⟨H6, f6⟩ : ∃ x, w6.heap.size = x := ⟨_, rfl⟩
  have qL6_H4 : H4 ≤ L6 := Nat.le_trans (HL5.out.hi (.head _)).2 (Nat.le_of_eq e6)
  have qL6_H2 : H2 ≤ L6 := Nat.le_trans (HL5.out.hi (.tail _ (.head _))).2 (Nat.le_of_eq e6)
  have qH6_L6 : L6 ≤ H6 := (by rw [← e6, ← f6]; exact h.size)
  have HL6 := Lib.hid (show Lg w w6 [] [(L6, H6, fun W => RsNew dvL 10 97 L6 H6 W a6 l), (L4, H4, fun W => RsNew dvL 10 97 L4 H4 W a4 l), (L2, H2, fun W => RsNew dvL 10 97 L2 H2 W a2 l)] from HL5.out.made e6 f6 h (by rw [← e6, ← f6]; exact hn.solid))
  clear h hn e6 f6
  go_wp2_with fail
  refine (eqDeviceS_same _ _ _ _ l _ (HL6.out.at (.tail _ (.head _))).ins (HL6.out.at (.head _)).ins hl).mono ?_
  rintro e w7 ⟨rfl, h⟩
  have HL7 := Lib.hid (show Lg w w7 [] [(L6, H6, fun W => RsNew dvL 10 97 L6 H6 W a6 l), (L4, H4, fun W => RsNew dvL 10 97 L4 H4 W a4 l), (L2, H2, fun W => RsNew dvL 10 97 L2 H2 W a2 l)] from HL6.out.kept h)
  clear h
  go_wp2_with fail
  go_ret
  exact ⟨rfl, HL7.out.below⟩

set_option maxRecDepth 100000 in
theorem lifted (os : Os) (started : os.Started) (H : Type) (enc : TypeId × Value → H) :
    ReturnsInHanded {} Try.checked os 4 .any (Rows.fnExactDevicesRightSpec.pre6 enc Try.prog Try.f4 Rows.fnExactDevicesRightRow.domain false) (Rows.fnExactDevicesRightSpec.post enc Try.prog Try.f4 false true false false) := by
  refine returnsInHanded_of_change (C := Try.checked) own started (by kernel_rfl) Try.func4
    (ChangeSpec.witness6 (enc := enc) (C := Try.checked) false ⟨#[], #[.slice none 0 0], []⟩ 8 (by kernel_rfl) (by kernel_rfl) (by kernel_rfl) (by kernel_rfl)) ?_
  intro W base args ds gs before hval0 hW hcnd _
  have hval : ∀ (j : Nat) t v, Try.f4.params[j]? = some t → args[j]? = some v → Value.okWide Try.prog W .any base t v := hval0
  have hW' := hW
  obtain ⟨p, q, hA0, hV, rfl, hfz, hnd⟩ := hW
  have hlt := DataW.TrodAll.lt hA0
  have hA : DataW.TrodAll enc Try.prog W 0 (fun _ => true) true Try.f4.params.toList args.toList ds p := hA0
  rw [Try.params4] at hA hval
  obtain ⟨v0, vs0, d0, ds0, p0, q0, hargs, rfl, rfl, h0, r0⟩ := trodAll_cons hA
  obtain ⟨rfl, rfl, rfl⟩ := trodAll_nil r0
  obtain rfl : args = #[v0] := by cases args; simp_all
  obtain ⟨rfl, rfl⟩ := trodVars_none hV
  have l0 : ∀ x ∈ p0, x.block < W.heap.size := fun x hx => hlt x (by simp [hx])
  have k0 := open_Dvs (hval 0 45 v0 rfl rfl) h0
  clear hA0 hval0
  simp only [List.append_nil] at hW'
  refine (walk W v0 k0).mono fun e W' ⟨he, hg⟩ => ?_
  subst he
  exact ⟨_, rfl, _, _, _, [], _, [], hW', (trodAll_cons_mk (shut_bool Try.underlying4 _) trodAll_mk0), (trodAll_cons_mk (Below.trod (by kernel_rfl) (by kernel_rfl) (of_decide_eq_true (by kernel_rfl)) h0 hg l0) trodAll_mk0), rfl, hg.frame _, fun h => by cases h⟩

theorem over : Rows.fnExactDevicesRightRow.holds Try.pinned (OpenSpec.ofChange Rows.fnExactDevicesRightSpec) :=
  OpenClaim.holds_of_wide 4 Try.f4 rfl rfl rfl rfl rfl rfl rfl ⟨rfl, rfl, rfl, rfl, rfl⟩ rfl rfl rfl rfl rfl (by kernel_rfl) Try.func4 (by kernel_rfl)
    (of_decide_eq_true (by kernel_rfl)) (by unfold Func.isWrapper; first | (rw [if_pos (by decide +kernel)]; kernel_rfl) | (rw [if_neg (by decide +kernel)]; exact ⟨rfl, rfl⟩))
    (fun os started H enc _ => lifted os started H enc)

/-- ████ THE STATEMENT ████ -/
theorem proved : Rows.FnExactDevicesRightSaid :=
  over
#print axioms proved
end Go.Proofs.Ytdhmcepnmbchkaa.fnExactDevicesRight
