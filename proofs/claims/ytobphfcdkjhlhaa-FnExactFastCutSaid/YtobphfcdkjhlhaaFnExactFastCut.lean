/- For every number and every text the program's FastCut answers as the model's FastCut does, in memory of its own. -/
import Derived.Test.YtobphfcdkjhlhaaRows
import Derived.Test.YtobphfcdkjhlhaaStrLaw
import Derived.Test.YtobphfcdkjhlhaaOpen
import Derived.WalkKit
import Derived.ProofKit
import Derived.OpenShut
import Derived.ShutString
import Derived.ChangeOld
import Derived.Below
namespace Go.Proofs.Ytobphfcdkjhlhaa.fnExactFastCut
open Go.ChangeShapes Go.WideShapes Go.ChangeAt Go.RowKit
open Go.ChangeMaps (open_string shut_string)
set_option linter.unusedVariables false      -- a walk need not use every 'w<i>' (that an integer argument fits its kind)

theorem own : ownKnob Try.prog.godebug = none := by kernel_rfl

set_option maxRecDepth 100000 in
set_option maxHeartbeats 8000000 in
theorem walk (a0 : Int) (a1 : ByteArray) (w0 : (Lit.int .i64 a0).wf = true) (w1 : a1.size ≤ maxLen) (w : World) :
    Calls Try.prog 5 #[.int .i64 a0, .string a1] w fun e w' => e = .returned (.bool true) ∧ Below w.heap.size w w' := by
  by_cases hbig : (1048576 : Int) < (a1.size : Int)
  · have hd : decide ((1048576 : Int) < (a1.size : Int)) = true := decide_eq_true hbig
    go_enter Try.func5, Try.ntmps5
    go_wp2_with fail
    go_ret
    exact ⟨rfl, Below.refl _ _⟩
  have hd : decide ((1048576 : Int) < (a1.size : Int)) = false := decide_eq_false hbig
  have HSP := fun W => Lib.hid (specCut_any a0 a1 W (by unfold maxLen; omega))
  have HIM := fun W => Lib.hid (implCut_any a0 a1 W (by unfold maxLen; omega))
  unfold StrsOut at HSP HIM
  obtain ⟨L, hL⟩ : ∃ L, cutL a0 a1 = L := ⟨_, rfl⟩
  have hL4 : L.length ≤ 32 := hL ▸ cutL_len a0 a1
  rw [hL] at HSP HIM
  clear hL hbig
  have g1 : decide (((1 + L.length : Nat) : Int) < 0) = false := decide_eq_false (by omega)
  have g3 : (((1 + L.length : Nat) : Int) != ((1 + L.length : Nat) : Int)) = false := by simp
  go_enter Try.func5, Try.ntmps5
  go_wp2_with fail
  refine (((HSP _).out)).mono ?_
  rintro e w1 ⟨z1, c1, rfl, hn, h⟩
  obtain ⟨L1, e1⟩ : ∃ x, w.heap.size = x := ⟨_, rfl⟩
  obtain ⟨H1, f1⟩ : ∃ x, w1.heap.size = x := ⟨_, rfl⟩
  have qH1_L1 : L1 ≤ H1 := (by rw [← e1, ← f1]; exact h.size)
  have HL1 := Lib.hid (show Lg w w1 [] [(L1, H1, fun W => RsNew strL 1 9 L1 H1 W z1 L)] from (Lg.first w).made e1 f1 h (by rw [← e1, ← f1]; exact hn.solid))
  clear h hn e1 f1
  go_wp2_with fail
  refine (((HIM _).out)).mono ?_
  rintro e w2 ⟨z2, c2, rfl, hn, h⟩
  obtain ⟨L2, e2⟩ : ∃ x, w1.heap.size = x := ⟨_, rfl⟩
  obtain ⟨H2, f2⟩ : ∃ x, w2.heap.size = x := ⟨_, rfl⟩
  have qL2_H1 : H1 ≤ L2 := Nat.le_trans (HL1.out.hi (.head _)).2 (Nat.le_of_eq e2)
  have qH2_L2 : L2 ≤ H2 := (by rw [← e2, ← f2]; exact h.size)
  have HL2 := Lib.hid (show Lg w w2 [] [(L2, H2, fun W => RsNew strL 1 9 L2 H2 W z2 L), (L1, H1, fun W => RsNew strL 1 9 L1 H1 W z1 L)] from HL1.out.made e2 f2 h (by rw [← e2, ← f2]; exact hn.solid))
  clear h hn e2 f2
  go_wp2_with fail
  refine ((eqStringS_same _ _ _ _ L _ (HL2.out.at (.head _)).ins (HL2.out.at (.tail _ (.head _))).ins (by omega))).mono ?_
  rintro e w3 ⟨rfl, h⟩
  have HL3 := Lib.hid (show Lg w w3 [] [(L2, H2, fun W => RsNew strL 1 9 L2 H2 W z2 L), (L1, H1, fun W => RsNew strL 1 9 L1 H1 W z1 L)] from HL2.out.kept h)
  clear h
  go_wp2_with fail
  refine (markStr_1 _ _ L _ (HL3.out.at (.head _)) (by omega)).mono ?_
  rintro e w4 ⟨rfl, hn, ho⟩
  have HL4 := Lib.hid (show Lg w w4 [] [(L2, H2, fun W => RsNew strL 1 9 L2 H2 W z2 (marksStr 1 L.length)), (L1, H1, fun W => RsNew strL 1 9 L1 H1 W z1 L)] from HL3.out.mark 0 rfl ho hn.solid (fun _ h => nomatch h) (List.forall_mem_cons.2 ⟨.inl qL2_H1, (fun _ h => nomatch h)⟩) rfl)
  clear hn ho
  go_wp2_with fail
  refine ((heldStr_1 _ _ L.length _ (HL4.out.at (.head _)) (by omega))).mono ?_
  rintro e w5 ⟨rfl, h⟩
  have HL5 := Lib.hid (show Lg w w5 [] [(L2, H2, fun W => RsNew strL 1 9 L2 H2 W z2 (marksStr 1 L.length)), (L1, H1, fun W => RsNew strL 1 9 L1 H1 W z1 L)] from HL4.out.kept h)
  clear h
  go_wp2_with fail
  refine (((HIM _).out)).mono ?_
  rintro e w6 ⟨z6, c6, rfl, hn, h⟩
  obtain ⟨L6, e6⟩ : ∃ x, w5.heap.size = x := ⟨_, rfl⟩
  obtain ⟨H6, f6⟩ : ∃ x, w6.heap.size = x := ⟨_, rfl⟩
  have qL6_H2 : H2 ≤ L6 := Nat.le_trans (HL5.out.hi (.head _)).2 (Nat.le_of_eq e6)
  have qL6_H1 : H1 ≤ L6 := Nat.le_trans (HL5.out.hi (.tail _ (.head _))).2 (Nat.le_of_eq e6)
  have qH6_L6 : L6 ≤ H6 := (by rw [← e6, ← f6]; exact h.size)
  have HL6 := Lib.hid (show Lg w w6 [] [(L6, H6, fun W => RsNew strL 1 9 L6 H6 W z6 L), (L2, H2, fun W => RsNew strL 1 9 L2 H2 W z2 (marksStr 1 L.length)), (L1, H1, fun W => RsNew strL 1 9 L1 H1 W z1 L)] from HL5.out.made e6 f6 h (by rw [← e6, ← f6]; exact hn.solid))
  clear h hn e6 f6
  go_wp2_with fail
  refine ((eqStringS_same _ _ _ _ L _ (HL6.out.at (.head _)).ins (HL6.out.at (.tail _ (.tail _ (.head _)))).ins (by omega))).mono ?_
  rintro e w7 ⟨rfl, h⟩
  have HL7 := Lib.hid (show Lg w w7 [] [(L6, H6, fun W => RsNew strL 1 9 L6 H6 W z6 L), (L2, H2, fun W => RsNew strL 1 9 L2 H2 W z2 (marksStr 1 L.length)), (L1, H1, fun W => RsNew strL 1 9 L1 H1 W z1 L)] from HL6.out.kept h)
  clear h
  go_wp2_with fail
  refine ((heldStr_1 _ _ L.length _ (HL7.out.at (.tail _ (.head _))) (by omega))).mono ?_
  rintro e w8 ⟨rfl, h⟩
  have HL8 := Lib.hid (show Lg w w8 [] [(L6, H6, fun W => RsNew strL 1 9 L6 H6 W z6 L), (L2, H2, fun W => RsNew strL 1 9 L2 H2 W z2 (marksStr 1 L.length)), (L1, H1, fun W => RsNew strL 1 9 L1 H1 W z1 L)] from HL7.out.kept h)
  clear h
  go_wp2_with fail
  go_ret
  exact ⟨rfl, HL8.out.below⟩

set_option maxRecDepth 100000 in
theorem lifted (os : Os) (started : os.Started) (H : Type) (enc : TypeId × Value → H) :
    ReturnsInHanded {} Try.checked os 5 .any (Rows.fnExactFastCutSpec.pre6 enc Try.prog Try.f5 Rows.fnExactFastCutRow.domain false) (Rows.fnExactFastCutSpec.post enc Try.prog Try.f5 false true false false) := by
  refine returnsInHanded_of_change (C := Try.checked) own started (by kernel_rfl) Try.func5
    (ChangeSpec.witness6 (enc := enc) (C := Try.checked) false ⟨#[], #[.int .i64 0, .string ByteArray.empty], []⟩ 8 (by kernel_rfl) (by kernel_rfl) (by kernel_rfl) (by kernel_rfl)) ?_
  intro W base args ds gs before hval0 hW hcnd _
  have hval : ∀ (j : Nat) t v, Try.f5.params[j]? = some t → args[j]? = some v → Value.okWide Try.prog W .any base t v := hval0
  have hW' := hW
  obtain ⟨p, q, hA0, hV, rfl, hfz, hnd⟩ := hW
  have hA : DataW.TrodAll enc Try.prog W 0 (fun _ => true) true Try.f5.params.toList args.toList ds p := hA0
  rw [Try.params5] at hA hval
  obtain ⟨v0, vs0, d0, ds0, p0, q0, hargs, rfl, rfl, h0, r0⟩ := trodAll_cons hA
  obtain ⟨v1, vs1, d1, ds1, p1, q1, rfl, rfl, rfl, h1, r1⟩ := trodAll_cons r0
  obtain ⟨rfl, rfl, rfl⟩ := trodAll_nil r1
  obtain rfl : args = #[v0, v1] := by cases args; simp_all
  obtain ⟨rfl, rfl⟩ := trodVars_none hV
  obtain ⟨a0, rfl, rfl, rfl, w0⟩ := open_int Try.underlying2 (hval 0 2 v0 rfl rfl) h0
  obtain ⟨a1, rfl, rfl, rfl, w1⟩ := open_string Try.underlying9 (hval 1 9 v1 rfl rfl) h1
  clear hA0 hval0
  simp only [List.append_nil] at hW'
  refine (walk a0 a1 w0 w1 W).mono fun e W' ⟨he, hg⟩ => ?_
  subst he
  exact ⟨_, rfl, _, _, _, [], [], [], hW', (trodAll_cons_mk (shut_bool Try.underlying4 _) trodAll_mk0), (trodAll_cons_mk (shut_int Try.underlying2 w0) (trodAll_cons_mk (shut_string Try.underlying9 w1) trodAll_mk0)), rfl, hg.frame _, fun h => by cases h⟩

theorem over : Rows.fnExactFastCutRow.holds Try.pinned (OpenSpec.ofChange Rows.fnExactFastCutSpec) :=
  OpenClaim.holds_of_wide 5 Try.f5 rfl rfl rfl rfl rfl rfl rfl ⟨rfl, rfl, rfl, rfl, rfl⟩ rfl rfl rfl rfl rfl (by kernel_rfl) Try.func5 (by kernel_rfl)
    (of_decide_eq_true (by kernel_rfl)) (by unfold Func.isWrapper; first | (rw [if_pos (by decide +kernel)]; kernel_rfl) | (rw [if_neg (by decide +kernel)]; exact ⟨rfl, rfl⟩))
    (fun os started H enc _ => lifted os started H enc)

/-- ████ THE STATEMENT ████ -/
theorem proved : Rows.FnExactFastCutSaid :=
  over
#print axioms proved
end Go.Proofs.Ytobphfcdkjhlhaa.fnExactFastCut
