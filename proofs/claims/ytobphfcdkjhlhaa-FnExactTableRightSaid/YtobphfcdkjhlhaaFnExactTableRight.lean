/- For every table of Sessions the program's TableRight answers as the model's TableRight does. -/
import Derived.Test.YtobphfcdkjhlhaaRows
import Derived.Test.YtobphfcdkjhlhaaOpenSe
import Derived.WalkKit
import Derived.ProofKit
import Derived.OpenShut
import Derived.ShutString
import Derived.ChangeOld
import Derived.Below
import Derived.Carry
namespace Go.Proofs.Ytobphfcdkjhlhaa.fnExactTableRight
open Go.ChangeShapes Go.WideShapes Go.ChangeAt Go.RowKit
open Go.ChangeMaps (open_string shut_string)
set_option linter.unusedVariables false

theorem own : ownKnob Try.prog.godebug = none := by kernel_rfl

set_option maxRecDepth 100000 in
theorem walk (w : World) (v0 : Value) (k0 : IsSes w v0) :
    Calls Try.prog 6 #[v0] w fun e w' => e = .returned (.bool true) ∧ Below w.heap.size w w' := by
  obtain ⟨a, cap, l, rfl, hin, hok, hlen⟩ := k0
  have HS := Lib.hid (szSessionS_any a cap l w hin hok hlen)
  have HI := Lib.hid hin
  have HT := Lib.hid (show l.length ≤ maxLen from hlen)
  go_enter Try.func6, Try.ntmps6
  go_wp2_with fail
  refine HS.out.mono ?_
  rintro e w1 ⟨m, rfl, hm1, hm2, h1⟩
  by_cases hneg : m < 0
  · have hd : decide (m < 0) = true := decide_eq_true hneg
    go_wp2_with fail
    go_ret
    exact ⟨rfl, h1⟩
  · have hd : decide (m < 0) = false := decide_eq_false hneg
    have hl : l.length ≤ 1048576 := (hm2 (by omega)).1
    clear hm1 hm2 hneg hin hlen
    go_wp2_with fail
    refine (toSessionS_new a cap l _ (HI.out.kept h1) hl).mono ?_
    rintro e w2 ⟨rfl, hi2, h2⟩
    have b2 := h1.trans (h2.mono h1.size)
    go_wp2_with fail
    refine (specTable_any _ _ l _ hi2.ins hok HT.out).mono ?_
    rintro e w3 ⟨rfl, h3⟩
    have b3 := b2.trans (h3.mono b2.size)
    go_wp2_with fail
    refine (toSessionS_new a cap l _ (HI.out.kept b3) hl).mono ?_
    rintro e w4 ⟨rfl, hi4, h4⟩
    have b4 := b3.trans (h4.mono b3.size)
    go_wp2_with fail
    refine (implTable_any _ _ l _ hi4.ins hok HT.out).mono ?_
    rintro e w5 ⟨rfl, h5⟩
    have b5 := b4.trans (h5.mono b4.size)
    have e0 : (tabB l != tabB l) = false := by simp
    go_wp2_with fail
    refine (toSessionS_new a cap l _ (HI.out.kept b5) hl).mono ?_
    rintro e w6 ⟨rfl, hi6, h6⟩
    have b6 := b5.trans (h6.mono b5.size)
    go_wp2_with fail
    refine (eqSessionS_same _ _ _ _ l _ ((hi4.ins.kept h5).kept h6) hi6.ins hl).mono ?_
    rintro e w7 ⟨rfl, h7⟩
    go_wp2_with fail
    go_ret
    exact ⟨rfl, b6.trans (h7.mono b6.size)⟩

set_option maxRecDepth 100000 in
theorem lifted (os : Os) (started : os.Started) (H : Type) (enc : TypeId × Value → H) :
    ReturnsInHanded {} Try.checked os 6 .any (Rows.fnExactTableRightSpec.pre6 enc Try.prog Try.f6 Rows.fnExactTableRightRow.domain false) (Rows.fnExactTableRightSpec.post enc Try.prog Try.f6 false true false false) := by
  refine returnsInHanded_of_change (C := Try.checked) own started (by kernel_rfl) Try.func6
    (ChangeSpec.witness6 (enc := enc) (C := Try.checked) false ⟨#[], #[.slice none 0 0], []⟩ 8 (by kernel_rfl) (by kernel_rfl) (by kernel_rfl) (by kernel_rfl)) ?_
  intro W base args ds gs before hval0 hW hcnd _
  have hval : ∀ (j : Nat) t v, Try.f6.params[j]? = some t → args[j]? = some v → Value.okWide Try.prog W .any base t v := hval0
  have hW' := hW
  obtain ⟨p, q, hA0, hV, rfl, hfz, hnd⟩ := hW
  have hlt := DataW.TrodAll.lt hA0
  have hA : DataW.TrodAll enc Try.prog W 0 (fun _ => true) true Try.f6.params.toList args.toList ds p := hA0
  rw [Try.params6] at hA hval
  obtain ⟨v0, vs0, d0, ds0, p0, q0, hargs, rfl, rfl, h0, r0⟩ := trodAll_cons hA
  obtain ⟨rfl, rfl, rfl⟩ := trodAll_nil r0
  obtain rfl : args = #[v0] := by cases args; simp_all
  obtain ⟨rfl, rfl⟩ := trodVars_none hV
  have l0 : ∀ x ∈ p0, x.block < W.heap.size := fun x hx => hlt x (by simp [hx])
  have k0 := open_Ses (hval 0 63 v0 rfl rfl) h0
  clear hA0 hval0
  simp only [List.append_nil] at hW'
  refine (walk W v0 k0).mono fun e W' ⟨he, hg⟩ => ?_
  subst he
  exact ⟨_, rfl, _, _, _, [], _, [], hW', (trodAll_cons_mk (shut_bool Try.underlying4 _) trodAll_mk0), (trodAll_cons_mk (Below.trod (by kernel_rfl) (by kernel_rfl) (of_decide_eq_true (by kernel_rfl)) h0 hg l0) trodAll_mk0), rfl, hg.frame _, fun h => by cases h⟩

theorem over : Rows.fnExactTableRightRow.holds Try.pinned (OpenSpec.ofChange Rows.fnExactTableRightSpec) :=
  OpenClaim.holds_of_wide 6 Try.f6 rfl rfl rfl rfl rfl rfl rfl ⟨rfl, rfl, rfl, rfl, rfl⟩ rfl rfl rfl rfl rfl (by kernel_rfl) Try.func6 (by kernel_rfl)
    (of_decide_eq_true (by kernel_rfl)) (by unfold Func.isWrapper; first | (rw [if_pos (by decide +kernel)]; kernel_rfl) | (rw [if_neg (by decide +kernel)]; exact ⟨rfl, rfl⟩))
    (fun os started H enc _ => lifted os started H enc)

/-- ████ THE STATEMENT ████ -/
theorem proved : Rows.FnExactTableRightSaid :=
  over
#print axioms proved
end Go.Proofs.Ytobphfcdkjhlhaa.fnExactTableRight
