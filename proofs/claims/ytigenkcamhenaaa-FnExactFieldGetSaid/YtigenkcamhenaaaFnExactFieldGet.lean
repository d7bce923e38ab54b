/- For every text and every Field the program's FieldGet answers the very Value that the model's FieldGet answers. -/
import Derived.Test.YtigenkcamhenaaaRows
import Derived.Test.YtigenkcamhenaaaBitsGetS
import Derived.Test.YtigenkcamhenaaaBitsGetI
import Derived.WalkKit
import Derived.ProofKit
import Derived.OpenShut
import Derived.ShutString
import Derived.ChangeOld
import Derived.Below
import Derived.Carry
namespace Go.Proofs.Ytigenkcamhenaaa.fnExactFieldGet
open Go.ChangeShapes Go.WideShapes Go.ChangeAt Go.RowKit
open Go.ChangeMaps (open_string shut_string)
set_option linter.unusedVariables false

theorem own : ownKnob Try.prog.godebug = none := by kernel_rfl

theorem walk (w : World) (v0 : Value) (k0 : IsStr v0) (v1 : Value) (k1 : IsFd v1) :
    Calls Try.prog 13 #[v0, v1] w fun e w' => e = .returned (.bool true) ∧ Below w.heap.size w w' := by
  obtain ⟨s, rfl, hs⟩ := k0
  obtain ⟨a, b, g, rfl, _, _⟩ := k1
  have HFd := Lib.hid (heap_alloc_new w (.cells #[.int .i64 a, .int .i64 b, .bool g] 90))
  have HB := Lib.hid (show Below w.heap.size w (w.alloc (.cells #[.int .i64 a, .int .i64 b, .bool g] 90)) from (Below.refl _ _).alloc (Nat.le_refl _) _)
  by_cases hbig : 1048576 < s.size
  · have hd : decide (1048576 < (s.size : Int)) = true := by simp; omega
    unfold fdV
    go_enter Try.func13, Try.ntmps13
    go_wp2_with fail
    go_ret
    exact ⟨rfl, HB.out⟩
  have hd : decide (1048576 < (s.size : Int)) = false := by simp; omega
  have hs' := Lib.hid hs
  have HS := fun U => Lib.hid (specFieldGet_any s a b g U hs)
  have HP := fun U => Lib.hid (implFieldGet_any s a b g U hs)
  have HE := fun U => Lib.hid (eqValue_same (fgetI s a b g).1 (fgetI s a b g).2 U)
  generalize fgetI s a b g = mm at *
  obtain ⟨m1, m2⟩ := mm
  unfold vlV at HS HP HE
  unfold maxLen at hs
  unfold fdV
  go_enter Try.func13, Try.ntmps13
  go_wp2_with fail
  refine (toField_any a b g _).mono ?_
  rintro e w1 ⟨rfl, h1⟩
  have H1 := Lib.hid (h1)
  clear h1
  have z1 : w.heap.size < w1.heap.size := Nat.lt_of_lt_of_le (by simp) H1.out.size
  obtain ⟨y0, y1, y2⟩ := fdCells ((H1.out.block w.heap.size (by simp)).trans HFd.out)
  go_wp2_with fail
  refine ((HS _).out).mono ?_
  rintro e w2 ⟨rfl, h2⟩
  have H2 := Lib.hid (H1.out.trans (h2.mono H1.out.size))
  clear h2 y0 y1 y2
  have z2 : w.heap.size < w2.heap.size := Nat.lt_of_lt_of_le (by simp) H2.out.size
  obtain ⟨y0, y1, y2⟩ := fdCells ((H2.out.block w.heap.size (by simp)).trans HFd.out)
  go_wp2_with fail
  refine (toField_any a b g _).mono ?_
  rintro e w3 ⟨rfl, h3⟩
  have HQ3 := Lib.hid h3
  have HA2 := Lib.hid (heap_alloc_new w2 (.cells #[.int .i64 m1, .int .i64 m2] 69))
  have H3 := Lib.hid ((H2.out.alloc H2.out.size _).trans (h3.mono (by have := H2.out.size; simp at *; omega)))
  clear h3 y0 y1 y2
  have z3 : w.heap.size < w3.heap.size := Nat.lt_of_lt_of_le (by simp) H3.out.size
  obtain ⟨y0, y1, y2⟩ := fdCells ((H3.out.block w.heap.size (by simp)).trans HFd.out)
  go_wp2_with fail
  refine ((HP _).out).mono ?_
  rintro e w4 ⟨rfl, h4⟩
  have HQ4 := Lib.hid (HQ3.out.trans (h4.mono HQ3.out.size))
  obtain ⟨q0, q1⟩ := vlCells ((HQ4.out.block w2.heap.size (by simp)).trans HA2.out)
  have q2 : w2.heap.size < w4.heap.size := Nat.lt_of_lt_of_le (by simp) HQ4.out.size
  have H4 := Lib.hid (H3.out.trans (h4.mono H3.out.size))
  clear h4 y0 y1 y2
  have z4 : w.heap.size < w4.heap.size := Nat.lt_of_lt_of_le (by simp) H4.out.size
  obtain ⟨y0, y1, y2⟩ := fdCells ((H4.out.block w.heap.size (by simp)).trans HFd.out)
  go_wp2_with fail
  refine ((HE _).out).mono ?_
  rintro e w5 ⟨rfl, h5⟩
  have H5 := Lib.hid ((H4.out.alloc H4.out.size _).trans (h5.mono (by have := H4.out.size; simp at *; omega)))
  clear h5 y0 y1 y2
  have z5 : w.heap.size < w5.heap.size := Nat.lt_of_lt_of_le (by simp) H5.out.size
  obtain ⟨y0, y1, y2⟩ := fdCells ((H5.out.block w.heap.size (by simp)).trans HFd.out)
  go_wp2
  go_ret
  exact ⟨rfl, HB.out.trans (H5.out.mono HB.out.size)⟩

set_option maxRecDepth 100000 in
theorem lifted (os : Os) (started : os.Started) (H : Type) (enc : TypeId × Value → H) :
    ReturnsInHanded {} Try.checked os 13 .any (Rows.fnExactFieldGetSpec.pre6 enc Try.prog Try.f13 Rows.fnExactFieldGetRow.domain false) (Rows.fnExactFieldGetSpec.post enc Try.prog Try.f13 false true false false) := by
  refine returnsInHanded_of_change (C := Try.checked) own started (by kernel_rfl) Try.func13
    (ChangeSpec.witness6 (enc := enc) (C := Try.checked) false ⟨#[], #[.string ByteArray.empty, .agg #[.int .i64 0, .int .i64 0, .bool false]], []⟩ 8 (by kernel_rfl) (by kernel_rfl) (by kernel_rfl) (by kernel_rfl)) ?_
  intro W base args ds gs before hval0 hW hcnd _
  have hval : ∀ (j : Nat) t v, Try.f13.params[j]? = some t → args[j]? = some v → Value.okWide Try.prog W .any base t v := hval0
  have hW' := hW
  obtain ⟨p, q, hA0, hV, rfl, hfz, hnd⟩ := hW
  have hlt := DataW.TrodAll.lt hA0
  have hA : DataW.TrodAll enc Try.prog W 0 (fun _ => true) true Try.f13.params.toList args.toList ds p := hA0
  rw [Try.params13] at hA hval
  obtain ⟨v0, vs0, d0, ds0, p0, q0, hargs, rfl, rfl, h0, r0⟩ := trodAll_cons hA
  obtain ⟨v1, vs1, d1, ds1, p1, q1, rfl, rfl, rfl, h1, r1⟩ := trodAll_cons r0
  obtain ⟨rfl, rfl, rfl⟩ := trodAll_nil r1
  obtain rfl : args = #[v0, v1] := by cases args; simp_all
  obtain ⟨rfl, rfl⟩ := trodVars_none hV
  have l0 : ∀ x ∈ p0, x.block < W.heap.size := fun x hx => hlt x (by simp [hx])
  have l1 : ∀ x ∈ p1, x.block < W.heap.size := fun x hx => hlt x (by simp [hx])
  have k0 := open_Str Try.underlying9 (hval 0 9 v0 rfl rfl) h0
  have k1 := open_Fd (hval 1 90 v1 rfl rfl) h1
  clear hA0 hval0
  simp only [List.append_nil] at hW'
  refine (walk W v0 k0 v1 k1).mono fun e W' ⟨he, hg⟩ => ?_
  subst he
  exact ⟨_, rfl, _, _, _, [], _, [], hW', (trodAll_cons_mk (shut_bool Try.underlying4 _) trodAll_mk0), (trodAll_cons_mk (Below.trod (by kernel_rfl) (by kernel_rfl) (of_decide_eq_true (by kernel_rfl)) h0 hg l0) (trodAll_cons_mk (Below.trod (by kernel_rfl) (by kernel_rfl) (of_decide_eq_true (by kernel_rfl)) h1 hg l1) trodAll_mk0)), rfl, hg.frame _, fun h => by cases h⟩

theorem over : Rows.fnExactFieldGetRow.holds Try.pinned (OpenSpec.ofChange Rows.fnExactFieldGetSpec) :=
  OpenClaim.holds_of_wide 13 Try.f13 rfl rfl rfl rfl rfl rfl rfl ⟨rfl, rfl, rfl, rfl, rfl⟩ rfl rfl rfl rfl rfl (by kernel_rfl) Try.func13 (by kernel_rfl)
    (of_decide_eq_true (by kernel_rfl)) (by unfold Func.isWrapper; first | (rw [if_pos (by decide +kernel)]; kernel_rfl) | (rw [if_neg (by decide +kernel)]; exact ⟨rfl, rfl⟩))
    (fun os started H enc _ => lifted os started H enc)

/-- ████ THE STATEMENT ████ -/
theorem proved : Rows.FnExactFieldGetSaid :=
  over
#print axioms proved
end Go.Proofs.Ytigenkcamhenaaa.fnExactFieldGet
