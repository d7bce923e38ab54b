/- For every Field the program's HighOf answers as the model's HighOf does. -/
import Derived.Test.YtigenkcamhenaaaRows
import Derived.Test.YtigenkcamhenaaaBitsLow
import Derived.Test.YtigenkcamhenaaaOpenBits
import Derived.WalkKit
import Derived.ProofKit
import Derived.OpenShut
import Derived.ShutString
import Derived.ChangeOld
import Derived.Below
import Derived.Carry
namespace Go.Proofs.Ytigenkcamhenaaa.fnExactHighOf
open Go.ChangeShapes Go.WideShapes Go.ChangeAt Go.RowKit
open Go.ChangeMaps (open_string shut_string)
set_option linter.unusedVariables false

theorem own : ownKnob Try.prog.godebug = none := by kernel_rfl

theorem walk (w : World) (v0 : Value) (k0 : IsFd v0) :
    Calls Try.prog 11 #[v0] w fun e w' => e = .returned (.bool true) ∧ Below w.heap.size w w' := by
  obtain ⟨a, b, g, rfl, _, _⟩ := k0
  have HA := Lib.hid (heap_alloc_new w (.cells #[.int .i64 a, .int .i64 b, .bool g] 90))
  have HB := Lib.hid (show Below w.heap.size w (w.alloc (.cells #[.int .i64 a, .int .i64 b, .bool g] 90)) from (Below.refl _ _).alloc (Nat.le_refl _) _)
  have hl : w.heap.size < (w.alloc (.cells #[.int .i64 a, .int .i64 b, .bool g] 90)).heap.size := by simp
  unfold fdV
  go_enter Try.func11, Try.ntmps11
  go_wp2_with fail
  refine (toField_any a b g _).mono ?_
  rintro e w1 ⟨rfl, h1⟩
  obtain ⟨y0, y1, y2⟩ := fdCells ((h1.block _ hl).trans HA.out)
  have z1 := Nat.lt_of_lt_of_le hl h1.size
  go_wp2_with fail
  refine (specHighOf_any a b g _).mono ?_
  rintro e w2 ⟨rfl, h2⟩
  have H12 := Lib.hid (h1.trans (h2.mono h1.size))
  clear y0 y1 y2
  obtain ⟨y0, y1, y2⟩ := fdCells ((H12.out.block _ hl).trans HA.out)
  go_wp2_with fail
  refine (toField_any a b g _).mono ?_
  rintro e w3 ⟨rfl, h3⟩
  go_wp2_with fail
  refine (implHighOf_any a b g _).mono ?_
  rintro e w4 ⟨rfl, h4⟩
  go_wp2
  go_ret
  exact ⟨rfl, HB.out.trans ((H12.out.trans ((h3.trans (h4.mono h3.size)).mono H12.out.size)).mono HB.out.size)⟩

set_option maxRecDepth 100000 in
theorem lifted (os : Os) (started : os.Started) (H : Type) (enc : TypeId × Value → H) :
    ReturnsInHanded {} Try.checked os 11 .any (Rows.fnExactHighOfSpec.pre6 enc Try.prog Try.f11 Rows.fnExactHighOfRow.domain false) (Rows.fnExactHighOfSpec.post enc Try.prog Try.f11 false true false false) := by
  refine returnsInHanded_of_change (C := Try.checked) own started (by kernel_rfl) Try.func11
    (ChangeSpec.witness6 (enc := enc) (C := Try.checked) false ⟨#[], #[.agg #[.int .i64 0, .int .i64 0, .bool false]], []⟩ 8 (by kernel_rfl) (by kernel_rfl) (by kernel_rfl) (by kernel_rfl)) ?_
  intro W base args ds gs before hval0 hW hcnd _
  have hval : ∀ (j : Nat) t v, Try.f11.params[j]? = some t → args[j]? = some v → Value.okWide Try.prog W .any base t v := hval0
  have hW' := hW
  obtain ⟨p, q, hA0, hV, rfl, hfz, hnd⟩ := hW
  have hlt := DataW.TrodAll.lt hA0
  have hA : DataW.TrodAll enc Try.prog W 0 (fun _ => true) true Try.f11.params.toList args.toList ds p := hA0
  rw [Try.params11] at hA hval
  obtain ⟨v0, vs0, d0, ds0, p0, q0, hargs, rfl, rfl, h0, r0⟩ := trodAll_cons hA
  obtain ⟨rfl, rfl, rfl⟩ := trodAll_nil r0
  obtain rfl : args = #[v0] := by cases args; simp_all
  obtain ⟨rfl, rfl⟩ := trodVars_none hV
  have l0 : ∀ x ∈ p0, x.block < W.heap.size := fun x hx => hlt x (by simp [hx])
  have k0 := open_Fd (hval 0 90 v0 rfl rfl) h0
  clear hA0 hval0
  simp only [List.append_nil] at hW'
  refine (walk W v0 k0).mono fun e W' ⟨he, hg⟩ => ?_
  subst he
  exact ⟨_, rfl, _, _, _, [], _, [], hW', (trodAll_cons_mk (shut_bool Try.underlying4 _) trodAll_mk0), (trodAll_cons_mk (Below.trod (by kernel_rfl) (by kernel_rfl) (of_decide_eq_true (by kernel_rfl)) h0 hg l0) trodAll_mk0), rfl, hg.frame _, fun h => by cases h⟩

theorem over : Rows.fnExactHighOfRow.holds Try.pinned (OpenSpec.ofChange Rows.fnExactHighOfSpec) :=
  OpenClaim.holds_of_wide 11 Try.f11 rfl rfl rfl rfl rfl rfl rfl ⟨rfl, rfl, rfl, rfl, rfl⟩ rfl rfl rfl rfl rfl (by kernel_rfl) Try.func11 (by kernel_rfl)
    (of_decide_eq_true (by kernel_rfl)) (by unfold Func.isWrapper; first | (rw [if_pos (by decide +kernel)]; kernel_rfl) | (rw [if_neg (by decide +kernel)]; exact ⟨rfl, rfl⟩))
    (fun os started H enc _ => lifted os started H enc)

/-- ████ THE STATEMENT ████ -/
theorem proved : Rows.FnExactHighOfSaid :=
  over
#print axioms proved
end Go.Proofs.Ytigenkcamhenaaa.fnExactHighOf
