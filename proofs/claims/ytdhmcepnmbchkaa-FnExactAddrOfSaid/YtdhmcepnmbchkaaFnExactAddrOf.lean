/- For every list of Devices and every Name the program's AddrOf answers as the model's AddrOf does, and the list stays as it was. -/
import Derived.Test.YtdhmcepnmbchkaaRows
import Derived.Test.YtdhmcepnmbchkaaAddrAll
import Derived.Test.YtdhmcepnmbchkaaOpenDvs
import Derived.WalkKit
import Derived.ProofKit
import Derived.OpenShut
import Derived.ShutString
import Derived.ChangeOld
import Derived.Below
import Derived.Carry
namespace Go.Proofs.Ytdhmcepnmbchkaa.fnExactAddrOf
open Go.ChangeShapes Go.WideShapes Go.ChangeAt Go.RowKit
open Go.ChangeMaps (open_string shut_string)
set_option linter.unusedVariables false

theorem own : ownKnob Try.prog.godebug = none := by kernel_rfl

set_option maxRecDepth 100000 in
set_option maxHeartbeats 8000000 in
theorem walk (w : World) (v0 : Value) (k0 : IsDvs w v0) (v1 : Value) (k1 : IsNm v1) :
    Calls Try.prog 7 #[v0, v1] w fun e w' => e = .returned (.bool true) ∧ Below w.heap.size w w' := by
  obtain ⟨a, cap, l, rfl, hin, hok, hlen⟩ := k0
  obtain ⟨n, rfl, hn⟩ := k1
  clear hn hok
  have HS := fun W => Lib.hid (szDeviceS_any a cap l.length W hlen)
  have HI := Lib.hid hin
  have HT := fun W => Lib.hid (toName_any n W)
  have HSP := fun W b c h => Lib.hid (specAddrOf_any b c l n W h hlen)
  have HIM := fun W b h => Lib.hid (implAddrOf_any b l.length l n W h hlen (Nat.le_refl _))
  generalize addrV l n = V at *
  have g3 : (V != V) = false := by simp
  obtain ⟨n0, n1, n2, n3, n4, n5, n6, n7⟩ := n
  unfold nmV at *
  dsimp only at *
  clear hin
  go_enter Try.func7, Try.ntmps7
  go_wp2_with (first
    | (refine wpList_box_h rfl 52 (.tmp 1) rfl #[.int .i64 n0, .int .i64 n1, .int .i64 n2, .int .i64 n3, .int .i64 n4, .int .i64 n5, .int .i64 n6, .bool n7] rfl ?_; intro w1 R1 e1 g1 b1; have HL1 := Lib.hid (show Lg w w1 [(R1, #[.int .i64 n0, .int .i64 n1, .int .i64 n2, .int .i64 n3, .int .i64 n4, .int .i64 n5, .int .i64 n6, .bool n7], 52)] [] from (Lg.first w).box e1 g1 b1); clear g1 b1 e1))
  refine ((HS _).out).mono ?_
  rintro e w2 ⟨m, rfl, hm2, h⟩
  have HL2 := Lib.hid (show Lg w w2 [(R1, #[.int .i64 n0, .int .i64 n1, .int .i64 n2, .int .i64 n3, .int .i64 n4, .int .i64 n5, .int .i64 n6, .bool n7], 52)] [] from HL1.out.kept h)
  clear h
  by_cases hneg : m < 0
  · have hd : decide (m < 0) = true := decide_eq_true hneg
    go_wp2_with fail
    go_ret
    exact ⟨rfl, HL2.out.below⟩
  have hd : decide (m < 0) = false := decide_eq_false hneg
  have hl : l.length ≤ 1048576 := hm2 (by omega)
  clear hm2 hneg hlen HS
  go_wp2_with fail
  have HK := Lib.hid (show ∀ W, Below w2.heap.size w2 W → ((W.cell? ⟨R1, 0, none⟩ = some (.int .i64 n0) ∧ W.cell? ⟨R1, 1, none⟩ = some (.int .i64 n1) ∧ W.cell? ⟨R1, 2, none⟩ = some (.int .i64 n2) ∧ W.cell? ⟨R1, 3, none⟩ = some (.int .i64 n3) ∧ W.cell? ⟨R1, 4, none⟩ = some (.int .i64 n4) ∧ W.cell? ⟨R1, 5, none⟩ = some (.int .i64 n5) ∧ W.cell? ⟨R1, 6, none⟩ = some (.int .i64 n6) ∧ W.cell? ⟨R1, 7, none⟩ = some (.bool n7)) ∧ Below w2.heap.size w2 W) from fun W hW => by
    have hA := (hW.block R1 (HL2.out.lt (.head _))).trans (HL2.out.get (.head _))
    refine ⟨⟨?_, ?_, ?_, ?_, ?_, ?_, ?_, ?_⟩, hW⟩
    all_goals (rw [cell_of_row W R1 _ _ _ (0, 0) hA]; rfl))
  go_region_held3 (fun W => (W.cell? ⟨R1, 0, none⟩ = some (.int .i64 n0) ∧ W.cell? ⟨R1, 1, none⟩ = some (.int .i64 n1) ∧ W.cell? ⟨R1, 2, none⟩ = some (.int .i64 n2) ∧ W.cell? ⟨R1, 3, none⟩ = some (.int .i64 n3) ∧ W.cell? ⟨R1, 4, none⟩ = some (.int .i64 n4) ∧ W.cell? ⟨R1, 5, none⟩ = some (.int .i64 n5) ∧ W.cell? ⟨R1, 6, none⟩ = some (.int .i64 n6) ∧ W.cell? ⟨R1, 7, none⟩ = some (.bool n7)) ∧ Below w2.heap.size w2 W)
    (first | with_reducible exact HK.out _ (Below.refl _ _).drew | with_reducible exact HK.out _ ba3 | with_reducible exact HK.out _ bn2 | with_reducible exact HK.out _ bd2 | with_reducible exact HK.out _ bd1 | with_reducible exact HK.out _ bn1)
    (first
      | (go_at_call 29; refine (toDeviceS_new a cap l _ (HI.out.kept (HL2.out.below.trans (bn1.mono HL2.out.below.size))) hl).mono ?_; rintro e wd2 ⟨az, rfl, hnz, hz⟩; have bd2 : Below w2.heap.size w2 wd2 := bn1.trans (hz.mono bn1.size); have HZ := Lib.hid (hnz.ins); clear hnz)
      | (go_at_call 29; refine (toDeviceS_new a cap l _ (HI.out.kept HL2.out.below.drew) hl).mono ?_; rintro e wd1 ⟨az, rfl, hnz, hz⟩; have bd1 : Below w2.heap.size w2 wd1 := (Below.refl _ _).drew.trans (hz.mono (Nat.le_refl _)); have HZ0 := Lib.hid (hnz.ins); clear hnz)
      | (go_at_call 33; refine (HT _).out.mono ?_; rintro e wn2 ⟨rfl, hz2⟩; have bn2 : Below w2.heap.size w2 wn2 := bd1.trans (hz2.mono bd1.size); have HZ := Lib.hid (HZ0.out.kept hz2))
      | (go_at_call 33; refine (HT _).out.mono ?_; rintro e wn1 ⟨rfl, hz2⟩; have bn1 : Below w2.heap.size w2 wn1 := (Below.refl _ _).drew.trans (hz2.mono (Nat.le_refl _)))
      | (go_at_call 39; refine (HSP _ _ _ HZ.out).out.mono ?_; rintro e wa3 ⟨rfl, hz3⟩; have ba3 : Below w2.heap.size w2 wa3 := (by first | exact bn2.trans (hz3.mono bn2.size) | exact bd2.trans (hz3.mono bd2.size))))
  have HL3 := Lib.hid (show Lg w wa3 [(R1, #[.int .i64 n0, .int .i64 n1, .int .i64 n2, .int .i64 n3, .int .i64 n4, .int .i64 n5, .int .i64 n6, .bool n7], 52)] [] from HL2.out.kept ba3)
  go_wp2_with fail
  refine ((toDeviceS_new a cap l _ (HI.out.kept HL3.out.below) hl)).mono ?_
  rintro e w4 ⟨a4, rfl, hn, h⟩
  obtain ⟨L4, e4⟩ : ∃ x, wa3.heap.size = x := ⟨_, rfl⟩
  obtain ⟨H4, f4⟩ : ∃ x, w4.heap.size = x := ⟨_, rfl⟩
  have qL4_R1 : R1 < L4 := Nat.lt_of_lt_of_eq (HL3.out.lt (.head _)) e4
  have qH4_L4 : L4 ≤ H4 := (by rw [← e4, ← f4]; exact h.size)
  have HL4 := Lib.hid (show Lg w w4 [(R1, #[.int .i64 n0, .int .i64 n1, .int .i64 n2, .int .i64 n3, .int .i64 n4, .int .i64 n5, .int .i64 n6, .bool n7], 52)] [(L4, H4, fun W => RsNew dvL 10 97 L4 H4 W a4 l)] from HL3.out.made e4 f4 h (by rw [← e4, ← f4]; exact hn.solid))
  clear h hn e4 f4
  go_wp2_with (first
    | (refine wpList_load_at rfl 52 (.tmp 3) rfl (R1) 0 rfl 52 #[.int .i64 n0, .int .i64 n1, .int .i64 n2, .int .i64 n3, .int .i64 n4, .int .i64 n5, .int .i64 n6, .bool n7] (0, 0) (HL4.out.get (.head _)) [.int .i64 n0, .int .i64 n1, .int .i64 n2, .int .i64 n3, .int .i64 n4, .int .i64 n5, .int .i64 n6, .bool n7] rfl _ Try.underlying52 rfl (by kernel_rfl) ?_))
  refine ((HT _).out).mono ?_
  rintro e w5 ⟨rfl, h⟩
  have HL5 := Lib.hid (show Lg w w5 [(R1, #[.int .i64 n0, .int .i64 n1, .int .i64 n2, .int .i64 n3, .int .i64 n4, .int .i64 n5, .int .i64 n6, .bool n7], 52)] [(L4, H4, fun W => RsNew dvL 10 97 L4 H4 W a4 l)] from HL4.out.kept h)
  clear h
  go_wp2_with fail
  refine ((HIM _ _ (HL5.out.at (.head _)).ins).out).mono ?_
  rintro e w6 ⟨rfl, h⟩
  have HL6 := Lib.hid (show Lg w w6 [(R1, #[.int .i64 n0, .int .i64 n1, .int .i64 n2, .int .i64 n3, .int .i64 n4, .int .i64 n5, .int .i64 n6, .bool n7], 52)] [(L4, H4, fun W => RsNew dvL 10 97 L4 H4 W a4 l)] from HL5.out.kept h)
  clear h
  go_wp2_with fail
  refine ((toDeviceS_new a cap l _ (HI.out.kept HL6.out.below) hl)).mono ?_
  rintro e w7 ⟨a7, rfl, hn, h⟩
  obtain ⟨L7, e7⟩ : ∃ x, w6.heap.size = x := ⟨_, rfl⟩
  obtain ⟨H7, f7⟩ : ∃ x, w7.heap.size = x := ⟨_, rfl⟩
  have qL7_R1 : R1 < L7 := Nat.lt_of_lt_of_eq (HL6.out.lt (.head _)) e7
  have qL7_H4 : H4 ≤ L7 := Nat.le_trans (HL6.out.hi (.head _)).2 (Nat.le_of_eq e7)
  have qH7_L7 : L7 ≤ H7 := (by rw [← e7, ← f7]; exact h.size)
  have HL7 := Lib.hid (show Lg w w7 [(R1, #[.int .i64 n0, .int .i64 n1, .int .i64 n2, .int .i64 n3, .int .i64 n4, .int .i64 n5, .int .i64 n6, .bool n7], 52)] [(L7, H7, fun W => RsNew dvL 10 97 L7 H7 W a7 l), (L4, H4, fun W => RsNew dvL 10 97 L4 H4 W a4 l)] from HL6.out.made e7 f7 h (by rw [← e7, ← f7]; exact hn.solid))
  clear h hn e7 f7
  go_wp2_with fail
  refine (eqDeviceS_same _ _ _ _ l _ (HL7.out.at (.tail _ (.head _))).ins (HL7.out.at (.head _)).ins hl).mono ?_
  rintro e w8 ⟨rfl, h⟩
  have HL8 := Lib.hid (show Lg w w8 [(R1, #[.int .i64 n0, .int .i64 n1, .int .i64 n2, .int .i64 n3, .int .i64 n4, .int .i64 n5, .int .i64 n6, .bool n7], 52)] [(L7, H7, fun W => RsNew dvL 10 97 L7 H7 W a7 l), (L4, H4, fun W => RsNew dvL 10 97 L4 H4 W a4 l)] from HL7.out.kept h)
  clear h
  go_wp2_with fail
  go_ret
  exact ⟨rfl, HL8.out.below⟩

set_option maxRecDepth 100000 in
theorem lifted (os : Os) (started : os.Started) (H : Type) (enc : TypeId × Value → H) :
    ReturnsInHanded {} Try.checked os 7 .any (Rows.fnExactAddrOfSpec.pre6 enc Try.prog Try.f7 Rows.fnExactAddrOfRow.domain false) (Rows.fnExactAddrOfSpec.post enc Try.prog Try.f7 false true false false) := by
  refine returnsInHanded_of_change (C := Try.checked) own started (by kernel_rfl) Try.func7
    (ChangeSpec.witness6 (enc := enc) (C := Try.checked) false ⟨#[], #[.slice none 0 0, .agg #[.int .i64 0, .int .i64 0, .int .i64 0, .int .i64 0, .int .i64 0, .int .i64 0, .int .i64 0, .bool false]], []⟩ 8 (by kernel_rfl) (by kernel_rfl) (by kernel_rfl) (by kernel_rfl)) ?_
  intro W base args ds gs before hval0 hW hcnd _
  have hval : ∀ (j : Nat) t v, Try.f7.params[j]? = some t → args[j]? = some v → Value.okWide Try.prog W .any base t v := hval0
  have hW' := hW
  obtain ⟨p, q, hA0, hV, rfl, hfz, hnd⟩ := hW
  have hlt := DataW.TrodAll.lt hA0
  have hA : DataW.TrodAll enc Try.prog W 0 (fun _ => true) true Try.f7.params.toList args.toList ds p := hA0
  rw [Try.params7] at hA hval
  obtain ⟨v0, vs0, d0, ds0, p0, q0, hargs, rfl, rfl, h0, r0⟩ := trodAll_cons hA
  obtain ⟨v1, vs1, d1, ds1, p1, q1, rfl, rfl, rfl, h1, r1⟩ := trodAll_cons r0
  obtain ⟨rfl, rfl, rfl⟩ := trodAll_nil r1
  obtain rfl : args = #[v0, v1] := by cases args; simp_all
  obtain ⟨rfl, rfl⟩ := trodVars_none hV
  have l0 : ∀ x ∈ p0, x.block < W.heap.size := fun x hx => hlt x (by simp [hx])
  have l1 : ∀ x ∈ p1, x.block < W.heap.size := fun x hx => hlt x (by simp [hx])
  have k0 := open_Dvs (hval 0 45 v0 rfl rfl) h0
  have k1 := open_Nm (hval 1 52 v1 rfl rfl) h1
  clear hA0 hval0
  simp only [List.append_nil] at hW'
  refine (walk W v0 k0 v1 k1).mono fun e W' ⟨he, hg⟩ => ?_
  subst he
  exact ⟨_, rfl, _, _, _, [], _, [], hW', (trodAll_cons_mk (shut_bool Try.underlying4 _) trodAll_mk0), (trodAll_cons_mk (Below.trod (by kernel_rfl) (by kernel_rfl) (of_decide_eq_true (by kernel_rfl)) h0 hg l0) (trodAll_cons_mk (Below.trod (by kernel_rfl) (by kernel_rfl) (of_decide_eq_true (by kernel_rfl)) h1 hg l1) trodAll_mk0)), rfl, hg.frame _, fun h => by cases h⟩

theorem over : Rows.fnExactAddrOfRow.holds Try.pinned (OpenSpec.ofChange Rows.fnExactAddrOfSpec) :=
  OpenClaim.holds_of_wide 7 Try.f7 rfl rfl rfl rfl rfl rfl rfl ⟨rfl, rfl, rfl, rfl, rfl⟩ rfl rfl rfl rfl rfl (by kernel_rfl) Try.func7 (by kernel_rfl)
    (of_decide_eq_true (by kernel_rfl)) (by unfold Func.isWrapper; first | (rw [if_pos (by decide +kernel)]; kernel_rfl) | (rw [if_neg (by decide +kernel)]; exact ⟨rfl, rfl⟩))
    (fun os started H enc _ => lifted os started H enc)

/-- ████ THE STATEMENT ████ -/
theorem proved : Rows.FnExactAddrOfSaid :=
  over
#print axioms proved
end Go.Proofs.Ytdhmcepnmbchkaa.fnExactAddrOf
