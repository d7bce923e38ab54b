/- For every text, every Field and every Value the program's FieldPut answers the very text that the model's FieldPut answers. -/
import Derived.Test.YtigenkcamhenaaaRows
import Derived.Test.YtigenkcamhenaaaBitsPutS
import Derived.Test.YtigenkcamhenaaaBitsPutI
import Derived.WalkKit
import Derived.ProofKit
import Derived.OpenShut
import Derived.ShutString
import Derived.ChangeOld
import Derived.Below
import Derived.Carry
namespace Go.Proofs.Ytigenkcamhenaaa.fnExactFieldPut
open Go.ChangeShapes Go.WideShapes Go.ChangeAt Go.RowKit
open Go.ChangeMaps (open_string shut_string)
set_option linter.unusedVariables false

theorem own : ownKnob Try.prog.godebug = none := by kernel_rfl

theorem lawF (W : World) (a w : Int) (g : Bool) (k n : Int) : ((W.alloc (.cells #[.int .i64 a, .int .i64 w, .bool g] 90)).alloc (.cells #[.int .i64 k, .int .i64 n] 95)).heap[W.heap.size]? = some (.cells #[.int .i64 a, .int .i64 w, .bool g] 90 (0, 0)) := by
  rw [Below.heap_alloc _ _ _ (by simp)]
  exact heap_alloc_new W _
theorem lawV (W : World) (a w : Int) (g : Bool) (k n : Int) : ((W.alloc (.cells #[.int .i64 a, .int .i64 w, .bool g] 90)).alloc (.cells #[.int .i64 k, .int .i64 n] 95)).heap[W.heap.size + 1]? = some (.cells #[.int .i64 k, .int .i64 n] 95 (0, 0)) := by
  have := heap_alloc_new (W.alloc (.cells #[.int .i64 a, .int .i64 w, .bool g] 90)) (.cells #[.int .i64 k, .int .i64 n] 95)
  simpa using this
theorem lawB (W : World) (a w : Int) (g : Bool) (k n : Int) : Below W.heap.size W ((W.alloc (.cells #[.int .i64 a, .int .i64 w, .bool g] 90)).alloc (.cells #[.int .i64 k, .int .i64 n] 95)) := ((Below.refl _ _).alloc (Nat.le_refl _) _).alloc (by simp) _
set_option maxRecDepth 100000 in
set_option maxHeartbeats 4000000 in
theorem walk (w : World) (v0 : Value) (k0 : IsStr v0) (v1 : Value) (k1 : IsFd v1) (v2 : Value) (k2 : IsVl v2) :
    Calls Try.prog 14 #[v0, v1, v2] w fun e w' => e = .returned (.bool true) ∧ Below w.heap.size w w' := by
  obtain ⟨s, rfl, hs⟩ := k0
  obtain ⟨a, b, g, rfl, _, _⟩ := k1
  obtain ⟨k, n, rfl, _, _⟩ := k2
  have HFd := Lib.hid (lawF w a b g k n)
  have HVl := Lib.hid (lawV w a b g k n)
  have HB := Lib.hid (lawB w a b g k n)
  by_cases hbig : 1048576 < s.size
  · have hd : decide (1048576 < (s.size : Int)) = true := by simp; omega
    unfold fdV vlV
    go_enter Try.func14, Try.ntmps14
    go_wp2_with fail
    go_ret
    exact ⟨rfl, HB.out⟩
  have hd : decide (1048576 < (s.size : Int)) = false := by simp; omega
  unfold fdV vlV
  have HT := fun U => Lib.hid (toField_any a b g U)
  have HW := fun U => Lib.hid (toValue_any k n U)
  have HS := fun U => Lib.hid (specFieldPut_any s a b g k n U hs)
  have HP := fun U => Lib.hid (implFieldPut_any s a b g k n U hs)
  simp only [fdV, vlV] at HT HW HS HP
  generalize fputI s a b g k n = r at *
  unfold maxLen at hs
  go_enter Try.func14, Try.ntmps14
  go_wp2_with fail
  obtain ⟨W0, eW⟩ : ∃ W0, (w.alloc (.cells #[.int .i64 a, .int .i64 b, .bool g] 90)).alloc (.cells #[.int .i64 k, .int .i64 n] 95) = W0 := ⟨_, rfl⟩
  have l1 : w.heap.size < W0.heap.size := by rw [← eW]; simp; omega
  have l2 : w.heap.size + 1 < W0.heap.size := by rw [← eW]; simp
  rw [eW] at HFd HVl HB ⊢
  have HC0 := fun U (hU : Below W0.heap.size W0 U) => Lib.hid (fdCells ((hU.block w.heap.size (l1)).trans (HFd.out)))
  have HC1 := fun U (hU : Below W0.heap.size W0 U) => Lib.hid (vlCells ((hU.block (w.heap.size + 1) (l2)).trans (HVl.out)))
  refine wp_region_quiet (C := fun U => Below W0.heap.size W0 U) (by kernel_rfl) (by kernel_rfl) (Below.refl _ _).drew ?_
  dsimp only
  go_big_quiet_want; go_big_quiet_op; first | go_big_quiet_on | (refine ⟨_, fun _ _ => rfl, ?_⟩; go_big_quiet_on)
  go_big_quiet_want; refine ⟨.agg #[.int .i64 a, .int .i64 b, .bool g], fun U hU => (by obtain ⟨e0, e1, e2⟩ := (HC0 U hU).out; simp [Oper.quietAt, Oper.quietUpon, go_sem, e0, e1, e2]), ?_⟩; simp only [Act.put, List.setIfInBounds_toArray, List.set_cons_zero, List.set_cons_succ]; go_big_quiet_on
  go_big_quiet_want; go_big_quiet_op; refine ⟨_, fun U hU => quietCall hU ((fun U => (HT U).out) U), ?_⟩; go_big_quiet_on
  go_big_quiet_want; refine ⟨.agg #[.int .i64 k, .int .i64 n], fun U hU => (by obtain ⟨e0, e1⟩ := (HC1 U hU).out; simp [Oper.quietAt, Oper.quietUpon, go_sem, e0, e1]), ?_⟩; simp only [Act.put, List.setIfInBounds_toArray, List.set_cons_zero, List.set_cons_succ]; go_big_quiet_on
  go_big_quiet_want; go_big_quiet_op; refine ⟨_, fun U hU => quietCall hU ((fun U => (HW U).out) U), ?_⟩; go_big_quiet_on
  go_big_quiet_want; go_big_quiet_op; refine ⟨_, fun U hU => quietCall hU ((fun U => (HS U).out) U), ?_⟩; go_big_quiet_on
  go_big_quiet_want; go_big_quiet_op; first | go_big_quiet_on | (refine ⟨_, fun _ _ => rfl, ?_⟩; go_big_quiet_on)
  refine wpQuiet_nil ?_
  intro X hX
  have HX := Lib.hid hX
  have m1 := Nat.lt_of_lt_of_le l1 hX.size
  have m2 := Nat.lt_of_lt_of_le l2 hX.size
  clear hX HC0 HC1
  go_wp2_with fail
  have HC0 := fun U (hU : Below X.heap.size X U) => Lib.hid (fdCells ((hU.block w.heap.size (m1)).trans ((HX.out.block w.heap.size l1).trans HFd.out)))
  have HC1 := fun U (hU : Below X.heap.size X U) => Lib.hid (vlCells ((hU.block (w.heap.size + 1) (m2)).trans ((HX.out.block (w.heap.size + 1) l2).trans HVl.out)))
  refine wp_region_quiet (C := fun U => Below X.heap.size X U) (by kernel_rfl) (by kernel_rfl) (Below.refl _ _).drew ?_
  dsimp only
  go_big_quiet_want; go_big_quiet_op; first | go_big_quiet_on | (refine ⟨_, fun _ _ => rfl, ?_⟩; go_big_quiet_on)
  go_big_quiet_want; refine ⟨.agg #[.int .i64 a, .int .i64 b, .bool g], fun U hU => (by obtain ⟨e0, e1, e2⟩ := (HC0 U hU).out; simp [Oper.quietAt, Oper.quietUpon, go_sem, e0, e1, e2]), ?_⟩; simp only [Act.put, List.setIfInBounds_toArray, List.set_cons_zero, List.set_cons_succ]; go_big_quiet_on
  go_big_quiet_want; go_big_quiet_op; refine ⟨_, fun U hU => quietCall hU ((fun U => (HT U).out) U), ?_⟩; go_big_quiet_on
  go_big_quiet_want; refine ⟨.agg #[.int .i64 k, .int .i64 n], fun U hU => (by obtain ⟨e0, e1⟩ := (HC1 U hU).out; simp [Oper.quietAt, Oper.quietUpon, go_sem, e0, e1]), ?_⟩; simp only [Act.put, List.setIfInBounds_toArray, List.set_cons_zero, List.set_cons_succ]; go_big_quiet_on
  go_big_quiet_want; go_big_quiet_op; refine ⟨_, fun U hU => quietCall hU ((fun U => (HW U).out) U), ?_⟩; go_big_quiet_on
  go_big_quiet_want; go_big_quiet_op; refine ⟨_, fun U hU => quietCall hU ((fun U => (HP U).out) U), ?_⟩; go_big_quiet_on
  go_big_quiet_want; go_big_quiet_op; first | go_big_quiet_on | (refine ⟨_, fun _ _ => rfl, ?_⟩; go_big_quiet_on)
  refine wpQuiet_nil ?_
  intro Y hY
  go_wp2_with fail
  go_ret
  exact ⟨rfl, HB.out.trans ((HX.out.trans (hY.mono HX.out.size)).mono HB.out.size)⟩

set_option maxRecDepth 100000 in
theorem lifted (os : Os) (started : os.Started) (H : Type) (enc : TypeId × Value → H) :
    ReturnsInHanded {} Try.checked os 14 .any (Rows.fnExactFieldPutSpec.pre6 enc Try.prog Try.f14 Rows.fnExactFieldPutRow.domain false) (Rows.fnExactFieldPutSpec.post enc Try.prog Try.f14 false true false false) := by
  refine returnsInHanded_of_change (C := Try.checked) own started (by kernel_rfl) Try.func14
    (ChangeSpec.witness6 (enc := enc) (C := Try.checked) false ⟨#[], #[.string ByteArray.empty, .agg #[.int .i64 0, .int .i64 0, .bool false], .agg #[.int .i64 0, .int .i64 0]], []⟩ 8 (by kernel_rfl) (by kernel_rfl) (by kernel_rfl) (by kernel_rfl)) ?_
  intro W base args ds gs before hval0 hW hcnd _
  have hval : ∀ (j : Nat) t v, Try.f14.params[j]? = some t → args[j]? = some v → Value.okWide Try.prog W .any base t v := hval0
  have hW' := hW
  obtain ⟨p, q, hA0, hV, rfl, hfz, hnd⟩ := hW
  have hlt := DataW.TrodAll.lt hA0
  have hA : DataW.TrodAll enc Try.prog W 0 (fun _ => true) true Try.f14.params.toList args.toList ds p := hA0
  rw [Try.params14] at hA hval
  obtain ⟨v0, vs0, d0, ds0, p0, q0, hargs, rfl, rfl, h0, r0⟩ := trodAll_cons hA
  obtain ⟨v1, vs1, d1, ds1, p1, q1, rfl, rfl, rfl, h1, r1⟩ := trodAll_cons r0
  obtain ⟨v2, vs2, d2, ds2, p2, q2, rfl, rfl, rfl, h2, r2⟩ := trodAll_cons r1
  obtain ⟨rfl, rfl, rfl⟩ := trodAll_nil r2
  obtain rfl : args = #[v0, v1, v2] := by cases args; simp_all
  obtain ⟨rfl, rfl⟩ := trodVars_none hV
  have l0 : ∀ x ∈ p0, x.block < W.heap.size := fun x hx => hlt x (by simp [hx])
  have l1 : ∀ x ∈ p1, x.block < W.heap.size := fun x hx => hlt x (by simp [hx])
  have l2 : ∀ x ∈ p2, x.block < W.heap.size := fun x hx => hlt x (by simp [hx])
  have k0 := open_Str Try.underlying9 (hval 0 9 v0 rfl rfl) h0
  have k1 := open_Fd (hval 1 90 v1 rfl rfl) h1
  have k2 := open_Vl (hval 2 95 v2 rfl rfl) h2
  clear hA0 hval0
  simp only [List.append_nil] at hW'
  refine (walk W v0 k0 v1 k1 v2 k2).mono fun e W' ⟨he, hg⟩ => ?_
  subst he
  exact ⟨_, rfl, _, _, _, [], _, [], hW', (trodAll_cons_mk (shut_bool Try.underlying4 _) trodAll_mk0), (trodAll_cons_mk (Below.trod (by kernel_rfl) (by kernel_rfl) (of_decide_eq_true (by kernel_rfl)) h0 hg l0) (trodAll_cons_mk (Below.trod (by kernel_rfl) (by kernel_rfl) (of_decide_eq_true (by kernel_rfl)) h1 hg l1) (trodAll_cons_mk (Below.trod (by kernel_rfl) (by kernel_rfl) (of_decide_eq_true (by kernel_rfl)) h2 hg l2) trodAll_mk0))), rfl, hg.frame _, fun h => by cases h⟩

theorem over : Rows.fnExactFieldPutRow.holds Try.pinned (OpenSpec.ofChange Rows.fnExactFieldPutSpec) :=
  OpenClaim.holds_of_wide 14 Try.f14 rfl rfl rfl rfl rfl rfl rfl ⟨rfl, rfl, rfl, rfl, rfl⟩ rfl rfl rfl rfl rfl (by kernel_rfl) Try.func14 (by kernel_rfl)
    (of_decide_eq_true (by kernel_rfl)) (by unfold Func.isWrapper; first | (rw [if_pos (by decide +kernel)]; kernel_rfl) | (rw [if_neg (by decide +kernel)]; exact ⟨rfl, rfl⟩))
    (fun os started H enc _ => lifted os started H enc)

/-- ████ THE STATEMENT ████ -/
theorem proved : Rows.FnExactFieldPutSaid :=
  over
#print axioms proved
end Go.Proofs.Ytigenkcamhenaaa.fnExactFieldPut
