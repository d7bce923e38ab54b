/- For every two Names the program's NameLess answers as the model's NameLess does. -/
import Derived.Test.YtnfedciblgapmaaRows
import Derived.Test.YtnfedciblgapmaaNameLess3
import Derived.Test.YtnfedciblgapmaaTo
import Derived.WalkKit
import Derived.ProofKit
import Derived.OpenShut
import Derived.ShutString
import Derived.ChangeOld
import Derived.Below
import Derived.Carry
namespace Go.Proofs.Ytnfedciblgapmaa.fnExactNameLess
open Go.ChangeShapes Go.WideShapes Go.ChangeAt Go.RowKit
open Go.ChangeMaps (open_string shut_string)
set_option linter.unusedVariables false

theorem own : ownKnob Try.prog.godebug = none := by kernel_rfl

set_option maxRecDepth 100000 in
set_option maxHeartbeats 4000000 in
theorem walk (w : World) (v0 : Value) (k0 : IsNm v0) (v1 : Value) (k1 : IsNm v1) :
    Calls Try.prog 7 #[v0, v1] w fun e w' => e = .returned (.bool true) ∧ Below w.heap.size w w' := by
  obtain ⟨n, rfl, hn⟩ := k0
  obtain ⟨m, rfl, hm⟩ := k1
  clear hn hm
  have HT := fun W => Lib.hid (toName_any n W)
  have HU := fun W => Lib.hid (toName_any m W)
  have HS := fun W => Lib.hid (specNameLess_any n m W)
  have HI := fun W => Lib.hid (implNameLess_any n m W)
  generalize nmLessB n m = b at *
  obtain ⟨a0, a1, a2, a3, a4, a5, a6, a7⟩ := n
  obtain ⟨m0, m1, m2, m3, m4, m5, m6, m7⟩ := m
  unfold nmV at *
  go_enter Try.func7, Try.ntmps7
  go_wp2_with fail
  have bU : Below w.heap.size w ((w.alloc (.cells #[.int .i64 a0, .int .i64 a1, .int .i64 a2, .int .i64 a3, .int .i64 a4, .int .i64 a5, .int .i64 a6, .bool a7] 36)).alloc (.cells #[.int .i64 m0, .int .i64 m1, .int .i64 m2, .int .i64 m3, .int .i64 m4, .int .i64 m5, .int .i64 m6, .bool m7] 36)) := ((Below.refl _ _).alloc (Nat.le_refl _) _).alloc (by simp) _
  have kU : (((w.alloc (.cells #[.int .i64 a0, .int .i64 a1, .int .i64 a2, .int .i64 a3, .int .i64 a4, .int .i64 a5, .int .i64 a6, .bool a7] 36)).alloc (.cells #[.int .i64 m0, .int .i64 m1, .int .i64 m2, .int .i64 m3, .int .i64 m4, .int .i64 m5, .int .i64 m6, .bool m7] 36)).cell? ⟨w.heap.size, 0, none⟩ = some (.int .i64 a0) ∧ ((w.alloc (.cells #[.int .i64 a0, .int .i64 a1, .int .i64 a2, .int .i64 a3, .int .i64 a4, .int .i64 a5, .int .i64 a6, .bool a7] 36)).alloc (.cells #[.int .i64 m0, .int .i64 m1, .int .i64 m2, .int .i64 m3, .int .i64 m4, .int .i64 m5, .int .i64 m6, .bool m7] 36)).cell? ⟨w.heap.size, 1, none⟩ = some (.int .i64 a1) ∧ ((w.alloc (.cells #[.int .i64 a0, .int .i64 a1, .int .i64 a2, .int .i64 a3, .int .i64 a4, .int .i64 a5, .int .i64 a6, .bool a7] 36)).alloc (.cells #[.int .i64 m0, .int .i64 m1, .int .i64 m2, .int .i64 m3, .int .i64 m4, .int .i64 m5, .int .i64 m6, .bool m7] 36)).cell? ⟨w.heap.size, 2, none⟩ = some (.int .i64 a2) ∧ ((w.alloc (.cells #[.int .i64 a0, .int .i64 a1, .int .i64 a2, .int .i64 a3, .int .i64 a4, .int .i64 a5, .int .i64 a6, .bool a7] 36)).alloc (.cells #[.int .i64 m0, .int .i64 m1, .int .i64 m2, .int .i64 m3, .int .i64 m4, .int .i64 m5, .int .i64 m6, .bool m7] 36)).cell? ⟨w.heap.size, 3, none⟩ = some (.int .i64 a3) ∧ ((w.alloc (.cells #[.int .i64 a0, .int .i64 a1, .int .i64 a2, .int .i64 a3, .int .i64 a4, .int .i64 a5, .int .i64 a6, .bool a7] 36)).alloc (.cells #[.int .i64 m0, .int .i64 m1, .int .i64 m2, .int .i64 m3, .int .i64 m4, .int .i64 m5, .int .i64 m6, .bool m7] 36)).cell? ⟨w.heap.size, 4, none⟩ = some (.int .i64 a4) ∧ ((w.alloc (.cells #[.int .i64 a0, .int .i64 a1, .int .i64 a2, .int .i64 a3, .int .i64 a4, .int .i64 a5, .int .i64 a6, .bool a7] 36)).alloc (.cells #[.int .i64 m0, .int .i64 m1, .int .i64 m2, .int .i64 m3, .int .i64 m4, .int .i64 m5, .int .i64 m6, .bool m7] 36)).cell? ⟨w.heap.size, 5, none⟩ = some (.int .i64 a5) ∧ ((w.alloc (.cells #[.int .i64 a0, .int .i64 a1, .int .i64 a2, .int .i64 a3, .int .i64 a4, .int .i64 a5, .int .i64 a6, .bool a7] 36)).alloc (.cells #[.int .i64 m0, .int .i64 m1, .int .i64 m2, .int .i64 m3, .int .i64 m4, .int .i64 m5, .int .i64 m6, .bool m7] 36)).cell? ⟨w.heap.size, 6, none⟩ = some (.int .i64 a6) ∧ ((w.alloc (.cells #[.int .i64 a0, .int .i64 a1, .int .i64 a2, .int .i64 a3, .int .i64 a4, .int .i64 a5, .int .i64 a6, .bool a7] 36)).alloc (.cells #[.int .i64 m0, .int .i64 m1, .int .i64 m2, .int .i64 m3, .int .i64 m4, .int .i64 m5, .int .i64 m6, .bool m7] 36)).cell? ⟨w.heap.size, 7, none⟩ = some (.bool a7)) ∧ (((w.alloc (.cells #[.int .i64 a0, .int .i64 a1, .int .i64 a2, .int .i64 a3, .int .i64 a4, .int .i64 a5, .int .i64 a6, .bool a7] 36)).alloc (.cells #[.int .i64 m0, .int .i64 m1, .int .i64 m2, .int .i64 m3, .int .i64 m4, .int .i64 m5, .int .i64 m6, .bool m7] 36)).cell? ⟨w.heap.size + 1, 0, none⟩ = some (.int .i64 m0) ∧ ((w.alloc (.cells #[.int .i64 a0, .int .i64 a1, .int .i64 a2, .int .i64 a3, .int .i64 a4, .int .i64 a5, .int .i64 a6, .bool a7] 36)).alloc (.cells #[.int .i64 m0, .int .i64 m1, .int .i64 m2, .int .i64 m3, .int .i64 m4, .int .i64 m5, .int .i64 m6, .bool m7] 36)).cell? ⟨w.heap.size + 1, 1, none⟩ = some (.int .i64 m1) ∧ ((w.alloc (.cells #[.int .i64 a0, .int .i64 a1, .int .i64 a2, .int .i64 a3, .int .i64 a4, .int .i64 a5, .int .i64 a6, .bool a7] 36)).alloc (.cells #[.int .i64 m0, .int .i64 m1, .int .i64 m2, .int .i64 m3, .int .i64 m4, .int .i64 m5, .int .i64 m6, .bool m7] 36)).cell? ⟨w.heap.size + 1, 2, none⟩ = some (.int .i64 m2) ∧ ((w.alloc (.cells #[.int .i64 a0, .int .i64 a1, .int .i64 a2, .int .i64 a3, .int .i64 a4, .int .i64 a5, .int .i64 a6, .bool a7] 36)).alloc (.cells #[.int .i64 m0, .int .i64 m1, .int .i64 m2, .int .i64 m3, .int .i64 m4, .int .i64 m5, .int .i64 m6, .bool m7] 36)).cell? ⟨w.heap.size + 1, 3, none⟩ = some (.int .i64 m3) ∧ ((w.alloc (.cells #[.int .i64 a0, .int .i64 a1, .int .i64 a2, .int .i64 a3, .int .i64 a4, .int .i64 a5, .int .i64 a6, .bool a7] 36)).alloc (.cells #[.int .i64 m0, .int .i64 m1, .int .i64 m2, .int .i64 m3, .int .i64 m4, .int .i64 m5, .int .i64 m6, .bool m7] 36)).cell? ⟨w.heap.size + 1, 4, none⟩ = some (.int .i64 m4) ∧ ((w.alloc (.cells #[.int .i64 a0, .int .i64 a1, .int .i64 a2, .int .i64 a3, .int .i64 a4, .int .i64 a5, .int .i64 a6, .bool a7] 36)).alloc (.cells #[.int .i64 m0, .int .i64 m1, .int .i64 m2, .int .i64 m3, .int .i64 m4, .int .i64 m5, .int .i64 m6, .bool m7] 36)).cell? ⟨w.heap.size + 1, 5, none⟩ = some (.int .i64 m5) ∧ ((w.alloc (.cells #[.int .i64 a0, .int .i64 a1, .int .i64 a2, .int .i64 a3, .int .i64 a4, .int .i64 a5, .int .i64 a6, .bool a7] 36)).alloc (.cells #[.int .i64 m0, .int .i64 m1, .int .i64 m2, .int .i64 m3, .int .i64 m4, .int .i64 m5, .int .i64 m6, .bool m7] 36)).cell? ⟨w.heap.size + 1, 6, none⟩ = some (.int .i64 m6) ∧ ((w.alloc (.cells #[.int .i64 a0, .int .i64 a1, .int .i64 a2, .int .i64 a3, .int .i64 a4, .int .i64 a5, .int .i64 a6, .bool a7] 36)).alloc (.cells #[.int .i64 m0, .int .i64 m1, .int .i64 m2, .int .i64 m3, .int .i64 m4, .int .i64 m5, .int .i64 m6, .bool m7] 36)).cell? ⟨w.heap.size + 1, 7, none⟩ = some (.bool m7)) := by simp [go_sem]
  have zU : ((w.alloc (.cells #[.int .i64 a0, .int .i64 a1, .int .i64 a2, .int .i64 a3, .int .i64 a4, .int .i64 a5, .int .i64 a6, .bool a7] 36)).alloc (.cells #[.int .i64 m0, .int .i64 m1, .int .i64 m2, .int .i64 m3, .int .i64 m4, .int .i64 m5, .int .i64 m6, .bool m7] 36)).heap.size = w.heap.size + 2 := by simp
  generalize ((w.alloc (.cells #[.int .i64 a0, .int .i64 a1, .int .i64 a2, .int .i64 a3, .int .i64 a4, .int .i64 a5, .int .i64 a6, .bool a7] 36)).alloc (.cells #[.int .i64 m0, .int .i64 m1, .int .i64 m2, .int .i64 m3, .int .i64 m4, .int .i64 m5, .int .i64 m6, .bool m7] 36)) = U at *
  have lA : w.heap.size < U.heap.size := by omega
  have lB : w.heap.size + 1 < U.heap.size := by omega
  clear zU
  obtain ⟨⟨A0, A1, A2, A3, A4, A5, A6, A7⟩, ⟨B0, B1, B2, B3, B4, B5, B6, B7⟩⟩ := kU
  refine wp_region_quiet (C := fun W => Below U.heap.size U W) (by kernel_rfl) (by kernel_rfl) ((Below.refl _ _).drew) ?_
  dsimp only
  go_big_quiet_want; refine ⟨.agg #[.int .i64 a0, .int .i64 a1, .int .i64 a2, .int .i64 a3, .int .i64 a4, .int .i64 a5, .int .i64 a6, .bool a7], fun W hW => (by have y0 := (hW.cell (p := ⟨w.heap.size, 0, none⟩) lA).trans A0; have y1 := (hW.cell (p := ⟨w.heap.size, 1, none⟩) lA).trans A1; have y2 := (hW.cell (p := ⟨w.heap.size, 2, none⟩) lA).trans A2; have y3 := (hW.cell (p := ⟨w.heap.size, 3, none⟩) lA).trans A3; have y4 := (hW.cell (p := ⟨w.heap.size, 4, none⟩) lA).trans A4; have y5 := (hW.cell (p := ⟨w.heap.size, 5, none⟩) lA).trans A5; have y6 := (hW.cell (p := ⟨w.heap.size, 6, none⟩) lA).trans A6; have y7 := (hW.cell (p := ⟨w.heap.size, 7, none⟩) lA).trans A7; simp [Oper.quietAt, Oper.quietUpon, go_sem, y0, y1, y2, y3, y4, y5, y6, y7]), ?_⟩; simp only [Act.put, List.setIfInBounds_toArray, List.set_cons_zero, List.set_cons_succ]; go_big_quiet_on
  go_big_quiet_want; go_big_quiet_op; refine ⟨_, fun W hW => quietCall hW (HT W).out, ?_⟩; go_big_quiet_on
  go_big_quiet_want; refine ⟨.agg #[.int .i64 m0, .int .i64 m1, .int .i64 m2, .int .i64 m3, .int .i64 m4, .int .i64 m5, .int .i64 m6, .bool m7], fun W hW => (by have y0 := (hW.cell (p := ⟨w.heap.size + 1, 0, none⟩) lB).trans B0; have y1 := (hW.cell (p := ⟨w.heap.size + 1, 1, none⟩) lB).trans B1; have y2 := (hW.cell (p := ⟨w.heap.size + 1, 2, none⟩) lB).trans B2; have y3 := (hW.cell (p := ⟨w.heap.size + 1, 3, none⟩) lB).trans B3; have y4 := (hW.cell (p := ⟨w.heap.size + 1, 4, none⟩) lB).trans B4; have y5 := (hW.cell (p := ⟨w.heap.size + 1, 5, none⟩) lB).trans B5; have y6 := (hW.cell (p := ⟨w.heap.size + 1, 6, none⟩) lB).trans B6; have y7 := (hW.cell (p := ⟨w.heap.size + 1, 7, none⟩) lB).trans B7; simp [Oper.quietAt, Oper.quietUpon, go_sem, y0, y1, y2, y3, y4, y5, y6, y7]), ?_⟩; simp only [Act.put, List.setIfInBounds_toArray, List.set_cons_zero, List.set_cons_succ]; go_big_quiet_on
  go_big_quiet_want; go_big_quiet_op; refine ⟨_, fun W hW => quietCall hW (HU W).out, ?_⟩; go_big_quiet_on
  go_big_quiet_want; go_big_quiet_op; refine ⟨_, fun W hW => quietCall hW (HS W).out, ?_⟩; go_big_quiet_on
  first | go_big_quiet_skip | (go_big_quiet_want; go_big_quiet_op; first | go_big_quiet_on | (refine ⟨_, fun _ _ => rfl, ?_⟩; go_big_quiet_on))
  refine wpQuiet_nil ?_
  intro X hX
  go_wp2_with fail
  refine wp_region_quiet (C := fun W => Below U.heap.size U W) (by kernel_rfl) (by kernel_rfl) (hX.drew) ?_
  dsimp only
  go_big_quiet_want; refine ⟨.agg #[.int .i64 a0, .int .i64 a1, .int .i64 a2, .int .i64 a3, .int .i64 a4, .int .i64 a5, .int .i64 a6, .bool a7], fun W hW => (by have y0 := (hW.cell (p := ⟨w.heap.size, 0, none⟩) lA).trans A0; have y1 := (hW.cell (p := ⟨w.heap.size, 1, none⟩) lA).trans A1; have y2 := (hW.cell (p := ⟨w.heap.size, 2, none⟩) lA).trans A2; have y3 := (hW.cell (p := ⟨w.heap.size, 3, none⟩) lA).trans A3; have y4 := (hW.cell (p := ⟨w.heap.size, 4, none⟩) lA).trans A4; have y5 := (hW.cell (p := ⟨w.heap.size, 5, none⟩) lA).trans A5; have y6 := (hW.cell (p := ⟨w.heap.size, 6, none⟩) lA).trans A6; have y7 := (hW.cell (p := ⟨w.heap.size, 7, none⟩) lA).trans A7; simp [Oper.quietAt, Oper.quietUpon, go_sem, y0, y1, y2, y3, y4, y5, y6, y7]), ?_⟩; simp only [Act.put, List.setIfInBounds_toArray, List.set_cons_zero, List.set_cons_succ]; go_big_quiet_on
  go_big_quiet_want; go_big_quiet_op; refine ⟨_, fun W hW => quietCall hW (HT W).out, ?_⟩; go_big_quiet_on
  go_big_quiet_want; refine ⟨.agg #[.int .i64 m0, .int .i64 m1, .int .i64 m2, .int .i64 m3, .int .i64 m4, .int .i64 m5, .int .i64 m6, .bool m7], fun W hW => (by have y0 := (hW.cell (p := ⟨w.heap.size + 1, 0, none⟩) lB).trans B0; have y1 := (hW.cell (p := ⟨w.heap.size + 1, 1, none⟩) lB).trans B1; have y2 := (hW.cell (p := ⟨w.heap.size + 1, 2, none⟩) lB).trans B2; have y3 := (hW.cell (p := ⟨w.heap.size + 1, 3, none⟩) lB).trans B3; have y4 := (hW.cell (p := ⟨w.heap.size + 1, 4, none⟩) lB).trans B4; have y5 := (hW.cell (p := ⟨w.heap.size + 1, 5, none⟩) lB).trans B5; have y6 := (hW.cell (p := ⟨w.heap.size + 1, 6, none⟩) lB).trans B6; have y7 := (hW.cell (p := ⟨w.heap.size + 1, 7, none⟩) lB).trans B7; simp [Oper.quietAt, Oper.quietUpon, go_sem, y0, y1, y2, y3, y4, y5, y6, y7]), ?_⟩; simp only [Act.put, List.setIfInBounds_toArray, List.set_cons_zero, List.set_cons_succ]; go_big_quiet_on
  go_big_quiet_want; go_big_quiet_op; refine ⟨_, fun W hW => quietCall hW (HU W).out, ?_⟩; go_big_quiet_on
  go_big_quiet_want; go_big_quiet_op; refine ⟨_, fun W hW => quietCall hW (HI W).out, ?_⟩; go_big_quiet_on
  first | go_big_quiet_skip | (go_big_quiet_want; go_big_quiet_op; first | go_big_quiet_on | (refine ⟨_, fun _ _ => rfl, ?_⟩; go_big_quiet_on))
  refine wpQuiet_nil ?_
  intro Y hY
  clear HT HU HS HI
  go_wp2
  go_ret
  exact ⟨rfl, bU.trans (hY.mono (Nat.le_of_lt lA))⟩

set_option maxRecDepth 100000 in
theorem lifted (os : Os) (started : os.Started) (H : Type) (enc : TypeId × Value → H) :
    ReturnsInHanded {} Try.checked os 7 .any (Rows.fnExactNameLessSpec.pre6 enc Try.prog Try.f7 Rows.fnExactNameLessRow.domain false) (Rows.fnExactNameLessSpec.post enc Try.prog Try.f7 false true false false) := by
  refine returnsInHanded_of_change (C := Try.checked) own started (by kernel_rfl) Try.func7
    (ChangeSpec.witness6 (enc := enc) (C := Try.checked) false ⟨#[], #[.agg #[.int .i64 0, .int .i64 0, .int .i64 0, .int .i64 0, .int .i64 0, .int .i64 0, .int .i64 0, .bool false], .agg #[.int .i64 0, .int .i64 0, .int .i64 0, .int .i64 0, .int .i64 0, .int .i64 0, .int .i64 0, .bool false]], []⟩ 8 (by kernel_rfl) (by kernel_rfl) (by kernel_rfl) (by kernel_rfl)) ?_
  intro W base args ds gs before hval0 hW hcnd _
  have hval : ∀ (j : Nat) t v, Try.f7.params[j]? = some t → args[j]? = some v → Value.okWide Try.prog W .any base t v := hval0
  have hW' := hW
  obtain ⟨p, q, hA0, hV, rfl, hfz, hnd⟩ := hW
  have hlt := DataW.TrodAll.lt hA0
  have hA : DataW.TrodAll enc Try.prog W 0 (fun _ => true) true Try.f7.params.toList args.toList ds p := hA0
  rw [Try.params7] at hA hval
  obtain ⟨v0, vs0, d0, ds0, p0, q0, hargs, rfl, rfl, h0, r0⟩ := trodAll_cons hA
  obtain ⟨v1, vs1, d1, ds1, p1, q1, rfl, rfl, rfl, h1, r1⟩ := trodAll_cons r0
  obtain ⟨rfl, rfl, rfl⟩ := trodAll_nil r1
  obtain rfl : args = #[v0, v1] := by cases args; simp_all
  obtain ⟨rfl, rfl⟩ := trodVars_none hV
  have l0 : ∀ x ∈ p0, x.block < W.heap.size := fun x hx => hlt x (by simp [hx])
  have l1 : ∀ x ∈ p1, x.block < W.heap.size := fun x hx => hlt x (by simp [hx])
  have k0 := open_Nm (hval 0 36 v0 rfl rfl) h0
  have k1 := open_Nm (hval 1 36 v1 rfl rfl) h1
  clear hA0 hval0
  simp only [List.append_nil] at hW'
  refine (walk W v0 k0 v1 k1).mono fun e W' ⟨he, hg⟩ => ?_
  subst he
  exact ⟨_, rfl, _, _, _, [], _, [], hW', (trodAll_cons_mk (shut_bool Try.underlying4 _) trodAll_mk0), (trodAll_cons_mk (Below.trod (by kernel_rfl) (by kernel_rfl) (of_decide_eq_true (by kernel_rfl)) h0 hg l0) (trodAll_cons_mk (Below.trod (by kernel_rfl) (by kernel_rfl) (of_decide_eq_true (by kernel_rfl)) h1 hg l1) trodAll_mk0)), rfl, hg.frame _, fun h => by cases h⟩

theorem over : Rows.fnExactNameLessRow.holds Try.pinned (OpenSpec.ofChange Rows.fnExactNameLessSpec) :=
  OpenClaim.holds_of_wide 7 Try.f7 rfl rfl rfl rfl rfl rfl rfl ⟨rfl, rfl, rfl, rfl, rfl⟩ rfl rfl rfl rfl rfl (by kernel_rfl) Try.func7 (by kernel_rfl)
    (of_decide_eq_true (by kernel_rfl)) (by unfold Func.isWrapper; first | (rw [if_pos (by decide +kernel)]; kernel_rfl) | (rw [if_neg (by decide +kernel)]; exact ⟨rfl, rfl⟩))
    (fun os started H enc _ => lifted os started H enc)

/-- ████ THE STATEMENT ████ -/
theorem proved : Rows.FnExactNameLessSaid :=
  over
#print axioms proved
end Go.Proofs.Ytnfedciblgapmaa.fnExactNameLess
