/- The program's Pgns answers the list that the model's Pgns answers, in memory of its own. -/
import Derived.Test.YtanijfmfjabmfaaRows
import Derived.Test.YtanijfmfjabmfaaPgns
import Derived.Test.YtanijfmfjabmfaaClaimTo
import Derived.WalkKit
import Derived.ProofKit
import Derived.OpenShut
import Derived.ShutString
import Derived.ChangeOld
import Derived.Below
namespace Go.Proofs.Ytanijfmfjabmfaa.fnExactPgns
open Go.ChangeShapes Go.WideShapes Go.ChangeAt Go.RowKit
open Go.ChangeMaps (open_string shut_string)
set_option linter.unusedVariables false      -- a walk need not use every 'w<i>' (that an integer argument fits its kind)

theorem own : ownKnob Try.prog.godebug = none := by kernel_rfl

theorem heldN_any (a : Option Addr) (cap : Nat) (N : Nat) (k : Nat) (w : World) (h : NumsIn w a (nmarks k N)) (hk0 : 0 < k) (hk : k + N ≤ 8000000) :
    Calls Try.prog 68 #[.slice a N cap, .int .i64 (k : Int)] w fun e w' => e = .returned (.int .i64 ((k + N : Nat) : Int)) ∧ Below w.heap.size w w' :=
  (heldInt64S_any a cap N k w h hk0 hk).mono fun _ _ ⟨h1, h2⟩ => ⟨h1, h2 ▸ Below.refl _ _⟩
set_option maxRecDepth 100000 in
set_option maxHeartbeats 8000000 in
theorem walk  (w : World) :
    Calls Try.prog 8 #[] w fun e w' => e = .returned (.bool true) ∧ Below w.heap.size w w' := by
  have HSP := fun W => Lib.hid (specPgns_any W)
  have HIM := fun W => Lib.hid (implPgns_any W)
  unfold PgnsOut at HSP HIM
  have hL : pgnL.length = 6 := rfl
  generalize pgnL = L at *
  have g1 : decide (((1 + L.length : Nat) : Int) < 0) = false := decide_eq_false (by omega)
  have g3 : (((1 + L.length : Nat) : Int) != ((1 + L.length : Nat) : Int)) = false := by simp
  have HLn := Lib.hid hL
  have hL2 : L.length ≤ 1048576 := by omega
  clear hL
  go_enter Try.func8, Try.ntmps8
  go_wp2_with fail
  refine ((HSP _).out).mono ?_
  rintro e w1 ⟨a1, c1, rfl, hn, h⟩
  obtain ⟨L1, e1⟩ : ∃ x, w.heap.size = x := ⟨_, rfl⟩
  obtain ⟨H1, f1⟩ : ∃ x, w1.heap.size = x := ⟨_, rfl⟩
  have qH1_L1 : L1 ≤ H1 := (by rw [← e1, ← f1]; exact h.size)
  have HL1 := Lib.hid (show Lg w w1 [] [(L1, H1, fun W => NumsNew L1 H1 W a1 L)] from (Lg.first w).made e1 f1 h (by rw [← e1, ← f1]; exact hn.solid))
  clear h hn e1 f1
  go_wp2_with fail
  refine ((HIM _).out).mono ?_
  rintro e w2 ⟨a2, c2, rfl, hn, h⟩
  obtain ⟨L2, e2⟩ : ∃ x, w1.heap.size = x := ⟨_, rfl⟩
  obtain ⟨H2, f2⟩ : ∃ x, w2.heap.size = x := ⟨_, rfl⟩
  have qL2_H1 : H1 ≤ L2 := Nat.le_trans (HL1.out.hi (.head _)).2 (Nat.le_of_eq e2)
  have qH2_L2 : L2 ≤ H2 := (by rw [← e2, ← f2]; exact h.size)
  have HL2 := Lib.hid (show Lg w w2 [] [(L2, H2, fun W => NumsNew L2 H2 W a2 L), (L1, H1, fun W => NumsNew L1 H1 W a1 L)] from HL1.out.made e2 f2 h (by rw [← e2, ← f2]; exact hn.solid))
  clear h hn e2 f2
  go_wp2_with fail
  refine (eqInt64S_same _ _ _ _ L _ (HL2.out.at (.head _)).nums (HL2.out.at (.tail _ (.head _))).nums (by omega)).mono ?_
  rintro e w3 ⟨rfl, h⟩
  have HL3 := Lib.hid (show Lg w w3 [] [(L2, H2, fun W => NumsNew L2 H2 W a2 L), (L1, H1, fun W => NumsNew L1 H1 W a1 L)] from HL2.out.kept h)
  clear h
  go_wp2_with fail
  refine (markInt64S_any _ _ L 1 _ (HL3.out.at (.head _)) (by omega) (by omega)).mono ?_
  rintro e w4 ⟨rfl, hn, ho⟩
  have HL4 := Lib.hid (show Lg w w4 [] [(L2, H2, fun W => NumsNew L2 H2 W a2 (nmarks 1 L.length)), (L1, H1, fun W => NumsNew L1 H1 W a1 L)] from HL3.out.mark 0 rfl ho hn.solid (fun _ h => nomatch h) (List.forall_mem_cons.2 ⟨.inl qL2_H1, (fun _ h => nomatch h)⟩) rfl)
  clear hn ho
  go_wp2_with fail
  refine (heldN_any _ _ L.length 1 _ (HL4.out.at (.head _)).nums (by omega) (by omega)).mono ?_
  rintro e w5 ⟨rfl, h⟩
  have HL5 := Lib.hid (show Lg w w5 [] [(L2, H2, fun W => NumsNew L2 H2 W a2 (nmarks 1 L.length)), (L1, H1, fun W => NumsNew L1 H1 W a1 L)] from HL4.out.kept h)
  clear h
  go_wp2_with fail
  refine ((HIM _).out).mono ?_
  rintro e w6 ⟨a6, c6, rfl, hn, h⟩
  obtain ⟨L6, e6⟩ : ∃ x, w5.heap.size = x := ⟨_, rfl⟩
  obtain ⟨H6, f6⟩ : ∃ x, w6.heap.size = x := ⟨_, rfl⟩
  have qL6_H2 : H2 ≤ L6 := Nat.le_trans (HL5.out.hi (.head _)).2 (Nat.le_of_eq e6)
  have qL6_H1 : H1 ≤ L6 := Nat.le_trans (HL5.out.hi (.tail _ (.head _))).2 (Nat.le_of_eq e6)
  have qH6_L6 : L6 ≤ H6 := (by rw [← e6, ← f6]; exact h.size)
  have HL6 := Lib.hid (show Lg w w6 [] [(L6, H6, fun W => NumsNew L6 H6 W a6 L), (L2, H2, fun W => NumsNew L2 H2 W a2 (nmarks 1 L.length)), (L1, H1, fun W => NumsNew L1 H1 W a1 L)] from HL5.out.made e6 f6 h (by rw [← e6, ← f6]; exact hn.solid))
  clear h hn e6 f6
  go_wp2_with fail
  refine (eqInt64S_same _ _ _ _ L _ (HL6.out.at (.head _)).nums (HL6.out.at (.tail _ (.tail _ (.head _)))).nums (by omega)).mono ?_
  rintro e w7 ⟨rfl, h⟩
  have HL7 := Lib.hid (show Lg w w7 [] [(L6, H6, fun W => NumsNew L6 H6 W a6 L), (L2, H2, fun W => NumsNew L2 H2 W a2 (nmarks 1 L.length)), (L1, H1, fun W => NumsNew L1 H1 W a1 L)] from HL6.out.kept h)
  clear h
  go_wp2_with fail
  refine (heldN_any _ _ L.length 1 _ (HL7.out.at (.tail _ (.head _))).nums (by omega) (by omega)).mono ?_
  rintro e w8 ⟨rfl, h⟩
  have HL8 := Lib.hid (show Lg w w8 [] [(L6, H6, fun W => NumsNew L6 H6 W a6 L), (L2, H2, fun W => NumsNew L2 H2 W a2 (nmarks 1 L.length)), (L1, H1, fun W => NumsNew L1 H1 W a1 L)] from HL7.out.kept h)
  clear h
  go_wp2_with fail
  go_ret
  exact ⟨rfl, HL8.out.below⟩

set_option maxRecDepth 100000 in
theorem lifted (os : Os) (started : os.Started) (H : Type) (enc : TypeId × Value → H) :
    ReturnsInHanded {} Try.checked os 8 .any (Rows.fnExactPgnsSpec.pre6 enc Try.prog Try.f8 Rows.fnExactPgnsRow.domain false) (Rows.fnExactPgnsSpec.post enc Try.prog Try.f8 false true false false) := by
  refine returnsInHanded_of_change (C := Try.checked) own started (by kernel_rfl) Try.func8
    (ChangeSpec.witness6 (enc := enc) (C := Try.checked) false ⟨#[], #[], []⟩ 8 (by kernel_rfl) (by kernel_rfl) (by kernel_rfl) (by kernel_rfl)) ?_
  intro W base args ds gs before hval0 hW hcnd _
  have hval : ∀ (j : Nat) t v, Try.f8.params[j]? = some t → args[j]? = some v → Value.okWide Try.prog W .any base t v := hval0
  have hW' := hW
  obtain ⟨p, q, hA0, hV, rfl, hfz, hnd⟩ := hW
  have hA : DataW.TrodAll enc Try.prog W 0 (fun _ => true) true Try.f8.params.toList args.toList ds p := hA0
  rw [Try.params8] at hA hval
  obtain ⟨rfl, rfl, rfl⟩ := trodAll_none hA
  obtain ⟨rfl, rfl⟩ := trodVars_none hV
  clear hA0 hval0
  simp only [List.append_nil] at hW'
  refine (walk  W).mono fun e W' ⟨he, hg⟩ => ?_
  subst he
  exact ⟨_, rfl, _, _, _, [], [], [], hW', (trodAll_cons_mk (shut_bool Try.underlying4 _) trodAll_mk0), rfl, rfl, hg.frame _, fun h => by cases h⟩

theorem over : Rows.fnExactPgnsRow.holds Try.pinned (OpenSpec.ofChange Rows.fnExactPgnsSpec) :=
  OpenClaim.holds_of_wide 8 Try.f8 rfl rfl rfl rfl rfl rfl rfl ⟨rfl, rfl, rfl, rfl, rfl⟩ rfl rfl rfl rfl rfl (by kernel_rfl) Try.func8 (by kernel_rfl)
    (of_decide_eq_true (by kernel_rfl)) (by unfold Func.isWrapper; first | (rw [if_pos (by decide +kernel)]; kernel_rfl) | (rw [if_neg (by decide +kernel)]; exact ⟨rfl, rfl⟩))
    (fun os started H enc _ => lifted os started H enc)

/-- ████ THE STATEMENT ████ -/
theorem proved : Rows.FnExactPgnsSaid :=
  over
#print axioms proved
end Go.Proofs.Ytanijfmfjabmfaa.fnExactPgns
