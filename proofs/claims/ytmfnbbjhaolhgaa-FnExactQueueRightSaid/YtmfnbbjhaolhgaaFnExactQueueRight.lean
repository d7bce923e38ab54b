/- For every Queue the program's QueueRight answers as the model's QueueRight does. -/
import Derived.Test.YtmfnbbjhaolhgaaRows
import Derived.Test.YtmfnbbjhaolhgaaQueueRight
import Derived.Test.YtmfnbbjhaolhgaaQueueTo
import Derived.WalkKit
import Derived.ProofKit
import Derived.OpenShut
import Derived.ShutString
import Derived.ChangeOld
import Derived.Below
import Derived.Carry
namespace Go.Proofs.Ytmfnbbjhaolhgaa.fnExactQueueRight
open Go.ChangeShapes Go.WideShapes Go.ChangeAt Go.RowKit
open Go.ChangeMaps (open_string shut_string)
set_option linter.unusedVariables false

theorem own : ownKnob Try.prog.godebug = none := by kernel_rfl

theorem walk (w : World) (v0 : Value) (k0 : IsQueue w v0) :
    Calls Try.prog 4 #[v0] w fun e w' => e = .returned (.bool true) ∧ Below w.heap.size w w' := by
  obtain ⟨a, cap, l, rfl, hin, hok, hlen⟩ := k0
  have HS := fun W hW => Lib.hid (szQueue_any a cap l 1048576 W hW hok hlen (by omega) (by omega))
  have HI := Lib.hid hin
  have HB := Lib.hid (fun o : Obj => (Below.refl w.heap.size w).alloc (Nat.le_refl _) o)
  clear hin hlen
  go_enter Try.func4, Try.ntmps4
  go_wp2_with fail
  refine (HS _ (HI.out.kept (HB.out _))).out.mono ?_
  rintro e w1 ⟨m, rfl, hm0, hm1, hm2, h1⟩
  have b1 := (HB.out _).trans (h1.mono (by simp))
  by_cases hneg : m < 0
  · have hd : decide (m < 0) = true := decide_eq_true hneg
    go_wp2_with fail
    go_ret
    exact ⟨rfl, b1⟩
  have hd : decide (m < 0) = false := decide_eq_false hneg
  have hl : l.length ≤ 1048576 := hm2 (by omega)
  have HA1 := Lib.hid ((RowAt.new _ _ _).kept h1)
  have e1 := HA1.out.get 0 _ rfl
  clear hm0 hm1 hm2 h1 hneg
  go_wp2_with fail
  refine (toQueue_new a cap l _ (HI.out.kept b1) hl).mono ?_
  rintro e w2 ⟨g2, rfl, hn2, h2⟩
  have b2 := b1.trans (h2.mono b1.size)
  have HA2 := Lib.hid (HA1.out.kept h2)
  have e2 := HA2.out.get 0 _ rfl
  clear HA1 e1 h2
  go_wp2_with fail
  refine (specQueueRight_any _ _ l _ hn2.cans hok hl).mono ?_
  rintro e w3 ⟨rfl, h3⟩
  have b3 := b2.trans (h3.mono b2.size)
  have HA3 := Lib.hid (HA2.out.kept h3)
  have e3 := HA3.out.get 0 _ rfl
  clear HA2 e2 h3 hn2
  go_wp2_with fail
  refine (toQueue_new a cap l _ (HI.out.kept b3) hl).mono ?_
  rintro e w4 ⟨g4, rfl, hn4, h4⟩
  have b4 := b3.trans (h4.mono b3.size)
  have HA4 := Lib.hid ((HA3.out.kept h4).alloc (.cells #[.slice (some ⟨g4, 0, none⟩) l.length l.length] 25))
  have HX4 := Lib.hid (RowAt.new w4 #[.slice (some ⟨g4, 0, none⟩) l.length l.length] 25)
  have b4' := b4.alloc b4.size (.cells #[.slice (some ⟨g4, 0, none⟩) l.length l.length] 25)
  have HN4 := Lib.hid (hn4.kept ((Below.refl _ _).alloc (Nat.le_refl _) (.cells #[.slice (some ⟨g4, 0, none⟩) l.length l.length] 25)))
  clear HA3 e3 h4 hn4
  go_wp2_with fail
  refine (implQueueRight_any _ _ l _ HN4.out.cans hok hl).mono ?_
  rintro e w5 ⟨rfl, h5⟩
  have b5 := b4'.trans (h5.mono b4'.size)
  have HA5 := HA4.out.kept h5
  have HX5 := HX4.out.kept h5
  have HN5 := Lib.hid (HN4.out.kept h5)
  have e5 := HA5.get 0 _ rfl
  have x5 := HX5.get 0 _ rfl
  have l5 := HA5.lt
  have l5' := HX5.lt
  clear HA4 HX4 HA5 HX5 HN4 h5 b4'
  go_wp2_with fail
  go_region_held3 (fun W => (W.cell? ⟨w4.heap.size, 0, none⟩ = some (.slice (some ⟨g4, 0, none⟩) l.length l.length) ∧ W.cell? ⟨w.heap.size, 0, none⟩ = some (.slice a l.length cap)) ∧ Below w5.heap.size w5 W)
    (first | assumption | exact twoS_first x5 e5 | exact twoS_call l5' l5 (by assumption) (by assumption))
    (first
      | (go_at_call 22; refine (toQueue_new a cap l _ (HI.out.kept (twoS_below (by assumption) b5 b5.size)) hl).mono ?_; rintro e w6 ⟨g6, rfl, hn6, h6⟩; have HN6 := Lib.hid hn6; clear hn6)
      | (go_at_call 23; refine (eqQueue_same _ _ _ _ l _ (HN5.out.cans.kept (twoS_keeps (by assumption))) HN6.out.cans hl).mono ?_; rintro e w7 ⟨rfl, h7⟩))
  have b7 := twoS_below (W := w7) (wr := w5) (p := ⟨w4.heap.size, 0, none⟩) (q := ⟨w.heap.size, 0, none⟩) (by assumption) b5 b5.size
  clear h6 h7
  go_wp2
  go_ret
  exact ⟨rfl, b7⟩

set_option maxRecDepth 100000 in
theorem lifted (os : Os) (started : os.Started) (H : Type) (enc : TypeId × Value → H) :
    ReturnsInHanded {} Try.checked os 4 .any (Rows.fnExactQueueRightSpec.pre6 enc Try.prog Try.f4 Rows.fnExactQueueRightRow.domain false) (Rows.fnExactQueueRightSpec.post enc Try.prog Try.f4 false true false false) := by
  refine returnsInHanded_of_change (C := Try.checked) own started (by kernel_rfl) Try.func4
    (ChangeSpec.witness6 (enc := enc) (C := Try.checked) false ⟨#[], #[.agg #[.slice none 0 0]], []⟩ 8 (by kernel_rfl) (by kernel_rfl) (by kernel_rfl) (by kernel_rfl)) ?_
  intro W base args ds gs before hval0 hW hcnd _
  have hval : ∀ (j : Nat) t v, Try.f4.params[j]? = some t → args[j]? = some v → Value.okWide Try.prog W .any base t v := hval0
  have hW' := hW
  obtain ⟨p, q, hA0, hV, rfl, hfz, hnd⟩ := hW
  have hlt := DataW.TrodAll.lt hA0
  have hA : DataW.TrodAll enc Try.prog W 0 (fun _ => true) true Try.f4.params.toList args.toList ds p := hA0
  rw [Try.params4] at hA hval
  obtain ⟨v0, vs0, d0, ds0, p0, q0, hargs, rfl, rfl, h0, r0⟩ := trodAll_cons hA
  obtain ⟨rfl, rfl, rfl⟩ := trodAll_nil r0
  obtain rfl : args = #[v0] := by cases args; simp_all
  obtain ⟨rfl, rfl⟩ := trodVars_none hV
  have l0 : ∀ x ∈ p0, x.block < W.heap.size := fun x hx => hlt x (by simp [hx])
  have k0 := open_Queue (hval 0 44 v0 rfl rfl) h0
  clear hA0 hval0
  simp only [List.append_nil] at hW'
  refine (walk W v0 k0).mono fun e W' ⟨he, hg⟩ => ?_
  subst he
  exact ⟨_, rfl, _, _, _, [], _, [], hW', (trodAll_cons_mk (shut_bool Try.underlying4 _) trodAll_mk0), (trodAll_cons_mk (Below.trod (by kernel_rfl) (by kernel_rfl) (of_decide_eq_true (by kernel_rfl)) h0 hg l0) trodAll_mk0), rfl, hg.frame _, fun h => by cases h⟩

theorem over : Rows.fnExactQueueRightRow.holds Try.pinned (OpenSpec.ofChange Rows.fnExactQueueRightSpec) :=
  OpenClaim.holds_of_wide 4 Try.f4 rfl rfl rfl rfl rfl rfl rfl ⟨rfl, rfl, rfl, rfl, rfl⟩ rfl rfl rfl rfl rfl (by kernel_rfl) Try.func4 (by kernel_rfl)
    (of_decide_eq_true (by kernel_rfl)) (by unfold Func.isWrapper; first | (rw [if_pos (by decide +kernel)]; kernel_rfl) | (rw [if_neg (by decide +kernel)]; exact ⟨rfl, rfl⟩))
    (fun os started H enc _ => lifted os started H enc)

/-- ████ THE STATEMENT ████ -/
theorem proved : Rows.FnExactQueueRightSaid :=
  over
#print axioms proved
end Go.Proofs.Ytmfnbbjhaolhgaa.fnExactQueueRight
