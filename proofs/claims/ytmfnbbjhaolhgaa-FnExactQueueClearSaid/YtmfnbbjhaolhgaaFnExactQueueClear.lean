/- For every Queue and every Src the program's QueueClear answers as the model's QueueClear does, in memory of its own. -/
import Derived.Test.YtmfnbbjhaolhgaaRows
import Derived.Test.YtmfnbbjhaolhgaaSpecClear
import Derived.Test.YtmfnbbjhaolhgaaQueueTo
import Derived.Test.YtmfnbbjhaolhgaaLive
import Derived.WalkKit
import Derived.ProofKit
import Derived.OpenShut
import Derived.ShutString
import Derived.ChangeOld
import Derived.Below
import Derived.Carry
namespace Go.Proofs.Ytmfnbbjhaolhgaa.fnExactQueueClear
open Go.ChangeShapes Go.WideShapes Go.ChangeAt Go.RowKit
open Go.ChangeMaps (open_string shut_string)
set_option linter.unusedVariables false

theorem own : ownKnob Try.prog.godebug = none := by kernel_rfl

theorem walk (w : World) (v0 : Value) (k0 : IsQueue w v0) (v1 : Value) (k1 : IsI64 v1) :
    Calls Try.prog 7 #[v0, v1] w fun e w' => e = .returned (.bool true) ∧ Below w.heap.size w w' := by
  obtain ⟨a, cap, q, rfl, hin, hok, hlen⟩ := k0
  obtain ⟨src, rfl, hsrc⟩ := k1
  have HS := fun W hW => Lib.hid (szQueue_any a cap q 1048576 W hW hok hlen (by omega) (by omega))
  have HI := Lib.hid hin
  have HB := Lib.hid (fun o : Obj => (Below.refl w.heap.size w).alloc (Nat.le_refl _) o)
  clear hin hlen
  go_enter Try.func7, Try.ntmps7
  go_wp2_with fail
  refine (HS _ (HI.out.kept (HB.out _))).out.mono ?_
  rintro e w1 ⟨m, rfl, hm0, hm1, hm2, h1⟩
  have HL1 := Lib.hid (((Live.first (Below.refl w.heap.size w)).addRow #[.slice a q.length cap] 44).kept h1)
  by_cases hneg : m < 0
  · have hd : decide (m < 0) = true := decide_eq_true hneg
    go_wp2_with fail
    go_ret
    exact ⟨rfl, HL1.out.below⟩
  have hd : decide (m < 0) = false := decide_eq_false hneg
  have hl : q.length ≤ 1048576 := hm2 (by omega)
  have e1 := HL1.out.get (R := w.heap.size) (vs := [.slice a q.length cap]) (by simp) 0 _ rfl
  clear hm0 hm1 hm2 h1 hneg
  obtain ⟨L, hLL⟩ : ∃ L, clearL q src = L := ⟨_, rfl⟩
  have HLen : Hid (L.length ≤ 16) := Lib.hid (by
    rw [← hLL]
    unfold clearL
    split
    · rename_i hz
      have h1 := (qRightB_of hz).1
      have h2 := List.length_filter_le (otherB src) q
      omega
    · simp)
  have HSP := fun W b1 (h1 : CansIn W b1 q) => Lib.hid (specQueueClear_any b1 q.length q src W h1 hok hl)
  have HIP := fun W b1 (h1 : CansIn W b1 q) => Lib.hid (implQueueClear_any b1 q.length q src W h1 hok hl)
  rw [hLL] at HSP HIP
  clear hLL hsrc
  -- the model's answer
  go_wp2_with fail
  refine (toQueue_new a cap q _ (HI.out.kept HL1.out.below) hl).mono ?_
  rintro e w3 ⟨g3, rfl, hn3, h3⟩
  have HL3 := Lib.hid ((HL1.out.kept h3).addNew hn3)
  clear e1 h3 hn3 HL1
  go_wp2_with fail
  refine (HSP _ _ (HL3.out.at (lo := w1.heap.size) (hi := w3.heap.size) (by simp)).cans).out.mono ?_
  rintro e w5 ⟨a5, c5, rfl, hc5, hn5, h5⟩
  have HL5 := Lib.hid ((((HL3.out.kept h5).addNew hn5).addRow #[.slice a5 L.length c5] 25).less (rs' := [(w5.heap.size, [.slice a5 L.length c5]), (w.heap.size, [.slice a q.length cap])]) (ns' := [(w3.heap.size, w5.heap.size, a5, L)]) (by simp) (by simp))
  have e5 := HL5.out.get (R := w.heap.size) (vs := [.slice a q.length cap]) (by simp) 0 _ rfl
  have s4' : w.heap.size < w3.heap.size := (HL3.out.row (w.heap.size, [.slice a q.length cap]) (by simp)).lt
  have s5 : w3.heap.size ≤ w5.heap.size := h5.size
  clear h5 hn5 HL3 hc5 HSP
  -- what the program is given, and its answer
  go_wp2_with fail
  refine (toQueue_new a cap q _ (HI.out.kept HL5.out.below) hl).mono ?_
  rintro e w6 ⟨g6, rfl, hn6, h6⟩
  have s6 : w5.heap.size < w6.heap.size := by have := h6.size; simp at this; omega
  simp only [World.size_alloc] at hn6
  have HL6 := Lib.hid (((HL5.out.kept h6).addNew hn6).addRow #[.slice (some ⟨g6, 0, none⟩) q.length q.length] 25)
  clear h6 hn6 HL5 e5
  go_wp2_with fail
  refine (HIP _ _ (HL6.out.at (lo := w5.heap.size + 1) (hi := w6.heap.size) (by simp)).cans).out.mono ?_
  rintro e w8 ⟨a8, c8, rfl, hc8, hn8, h8⟩
  have s8 : w6.heap.size < w8.heap.size := by have := h8.size; simp at this; omega
  simp only [World.size_alloc] at hn8
  have HL8 := Lib.hid ((HL6.out.kept h8).addNew hn8)
  have y0 := HL8.out.get (R := w5.heap.size) (vs := [.slice a5 L.length c5]) (by simp) 0 _ rfl
  have HL8' := Lib.hid (HL8.out.addRow #[.slice a8 L.length c8] 25)
  have sv : w5.heap.size < w8.heap.size := by omega
  have hL := HLen.out
  clear h8 hn8 hc8 HL6 HL8
  go_wp2_with fail
  refine (eqQueue_same _ _ _ _ L _ (HL8'.out.at (lo := w6.heap.size + 1) (hi := w8.heap.size) (by simp)).cans (HL8'.out.at (lo := w3.heap.size) (hi := w5.heap.size) (by simp)).cans (by omega)).mono ?_
  rintro e w9 ⟨rfl, h9⟩
  have HL9 := Lib.hid (HL8'.out.kept h9)
  have x9 := HL9.out.get (R := w6.heap.size) (vs := [.slice (some ⟨g6, 0, none⟩) q.length q.length]) (by simp) 0 _ rfl
  have e9 := HL9.out.get (R := w.heap.size) (vs := [.slice a q.length cap]) (by simp) 0 _ rfl
  have l9 : w6.heap.size < w9.heap.size := (HL9.out.row (w6.heap.size, [.slice (some ⟨g6, 0, none⟩) q.length q.length]) (by simp)).lt
  have l9' : w.heap.size < w9.heap.size := (HL9.out.row (w.heap.size, [.slice a q.length cap]) (by simp)).lt
  clear h9 HL8' y0
  go_wp2_with fail
  -- what it was given reads as before
  go_region_held3 (fun W => (W.cell? ⟨w6.heap.size, 0, none⟩ = some (.slice (some ⟨g6, 0, none⟩) q.length q.length) ∧ W.cell? ⟨w.heap.size, 0, none⟩ = some (.slice a q.length cap)) ∧ Below w9.heap.size w9 W)
    (first | assumption | exact twoS_first x9 e9 | exact twoS_call l9 l9' (by assumption) (by assumption))
    (first
      | (go_at_call 22; refine (toQueue_new a cap q _ (HI.out.kept (twoS_below (by assumption) HL9.out.below HL9.out.below.size)) hl).mono ?_; rintro e w10 ⟨g10, rfl, hn10, h10⟩; have HN10 := Lib.hid hn10; clear hn10)
      | (go_at_call 23; refine (eqQueue_same _ _ _ _ q _ ((HL9.out.at (lo := w5.heap.size + 1) (hi := w6.heap.size) (by simp)).cans.kept (twoS_keeps (by assumption))) HN10.out.cans hl).mono ?_; rintro e w11 ⟨rfl, h11⟩))
  have k11 := twoS_keeps (W := w11) (wr := w9) (p := ⟨w6.heap.size, 0, none⟩) (q := ⟨w.heap.size, 0, none⟩) (by assumption)
  have HL11 := Lib.hid (HL9.out.kept k11)
  have x11 := HL11.out.get (R := w6.heap.size) (vs := [.slice (some ⟨g6, 0, none⟩) q.length q.length]) (by simp) 0 _ rfl
  clear k11 HL9 x9 e9 l9 l9' h10 h11 HN10
  -- every cell of what it was given is written
  obtain ⟨K1, hK1⟩ : ∃ K1, 1 + 2 * q.length = K1 := ⟨_, rfl⟩
  obtain ⟨K3, hK3⟩ : ∃ K3, 1 + 2 * L.length = K3 := ⟨_, rfl⟩
  have hK : 0 < K1 ∧ K1 ≤ 2200000 ∧ 0 < K3 ∧ K3 ≤ 50 := by omega
  have HM1 := fun W hW => Lib.hid (markQueue_any (lo := w5.heap.size + 1) (hi := w6.heap.size) (some ⟨g6, 0, none⟩) q.length q 1 W hW (by omega) (by omega))
  have HM3 := fun W hW => Lib.hid (markQueue_any (lo := w6.heap.size + 1) (hi := w8.heap.size) a8 c8 L 1 W hW (by omega) (by omega))
  have HH3 := fun W hW => Lib.hid (heldQueue_any a8 c8 L.length 1 W hW (by omega) (by omega))
  rw [hK1] at HM1
  rw [hK3] at HM3 HH3
  have hd2 : decide ((K1 : Int) < 0) = false := decide_eq_false (by omega)
  have hd3 : decide ((K3 : Int) < 0) = false := decide_eq_false (by omega)
  clear hK1 hK3
  go_wp2_with fail
  refine (HM1 _ (HL11.out.at (by simp))).out.mono ?_
  rintro e w15 ⟨rfl, hn15, h15⟩
  have HL15 := Lib.hid ((HL11.out.less (ns' := [(w6.heap.size + 1, w8.heap.size, a8, L), (w3.heap.size, w5.heap.size, a5, L)]) (fun r h => h) (by simp)).out h15 (by omega) (by simp <;> omega) (by simp <;> omega))
  have y0 := HL15.out.get (R := w5.heap.size) (vs := [.slice a5 L.length c5]) (by simp) 0 _ rfl
  have z0 := HL15.out.get (R := w8.heap.size) (vs := [.slice a8 L.length c8]) (by simp) 0 _ rfl
  clear h15 hn15 HL11 HM1 x11
  go_wp2_with fail
  refine (eqQueue_same _ _ _ _ L _ (HL15.out.at (lo := w6.heap.size + 1) (hi := w8.heap.size) (by simp)).cans (HL15.out.at (lo := w3.heap.size) (hi := w5.heap.size) (by simp)).cans (by omega)).mono ?_
  rintro e w16 ⟨rfl, h16⟩
  have HL16 := Lib.hid (HL15.out.kept h16)
  clear h16 HL15 y0 z0
  have z0 := HL16.out.get (R := w8.heap.size) (vs := [.slice a8 L.length c8]) (by simp) 0 _ rfl
  -- every cell of its answer is written, and read
  go_wp2_with fail
  refine (HM3 _ (HL16.out.at (by simp))).out.mono ?_
  rintro e w17 ⟨rfl, hn17, h17⟩
  have HL17 := Lib.hid (((HL16.out.less (ns' := [(w3.heap.size, w5.heap.size, a5, L)]) (fun r h => h) (by simp)).out h17 (by omega) (by simp <;> omega) (by simp <;> omega)).addNew hn17)
  clear h17 hn17 HL16 HM3 z0
  have z0 := HL17.out.get (R := w8.heap.size) (vs := [.slice a8 L.length c8]) (by simp) 0 _ rfl
  go_wp2_with fail
  refine (HH3 _ (HL17.out.at (lo := w6.heap.size + 1) (hi := w8.heap.size) (by simp)).cans).out.mono ?_
  rintro e w18 ⟨rfl, h18⟩
  have HL18 := Lib.hid (HL17.out.kept h18)
  clear h18 HL17 z0
  have e18 := HL18.out.get (R := w.heap.size) (vs := [.slice a q.length cap]) (by simp) 0 _ rfl
  -- a second answer, in memory of its own
  go_wp2_with fail
  refine (toQueue_new a cap q _ (HI.out.kept HL18.out.below) hl).mono ?_
  rintro e w19 ⟨g19, rfl, hn19, h19⟩
  have HL19 := Lib.hid ((HL18.out.kept h19).addNew hn19)
  clear h19 hn19 HL18 e18
  go_wp2_with fail
  refine (HIP _ _ (HL19.out.at (lo := w18.heap.size) (hi := w19.heap.size) (by simp)).cans).out.mono ?_
  rintro e w21 ⟨a21, c21, rfl, hc21, hn21, h21⟩
  have HL21 := Lib.hid (((HL19.out.kept h21).less (ns' := [(w6.heap.size + 1, w8.heap.size, a8, marksL 1 L.length), (w3.heap.size, w5.heap.size, a5, L)]) (fun r h => h) (by simp)).addNew hn21)
  have y0 := HL21.out.get (R := w5.heap.size) (vs := [.slice a5 L.length c5]) (by simp) 0 _ rfl
  have sv21 : w5.heap.size < w21.heap.size := (HL21.out.row (w5.heap.size, [.slice a5 L.length c5]) (by simp)).lt
  have HL21' := Lib.hid (HL21.out.alloc (.cells #[.slice a21 L.length c21] 25))
  clear h21 hn21 hc21 HL19 HL21 HIP
  go_wp2_with fail
  refine (eqQueue_same _ _ _ _ L _ (HL21'.out.at (lo := w19.heap.size) (hi := w21.heap.size) (by simp)).cans (HL21'.out.at (lo := w3.heap.size) (hi := w5.heap.size) (by simp)).cans (by omega)).mono ?_
  rintro e w22 ⟨rfl, h22⟩
  have HL22 := Lib.hid (HL21'.out.kept h22)
  clear h22 HL21' y0
  have z0 := HL22.out.get (R := w8.heap.size) (vs := [.slice a8 L.length c8]) (by simp) 0 _ rfl
  go_wp2_with fail
  refine (HH3 _ (HL22.out.at (lo := w6.heap.size + 1) (hi := w8.heap.size) (by simp)).cans).out.mono ?_
  rintro e w23 ⟨rfl, h23⟩
  have b23 := (HL22.out.kept h23).below
  clear h23 HL22 z0
  go_wp2
  go_ret
  exact ⟨rfl, b23⟩

set_option maxRecDepth 100000 in
theorem lifted (os : Os) (started : os.Started) (H : Type) (enc : TypeId × Value → H) :
    ReturnsInHanded {} Try.checked os 7 .any (Rows.fnExactQueueClearSpec.pre6 enc Try.prog Try.f7 Rows.fnExactQueueClearRow.domain false) (Rows.fnExactQueueClearSpec.post enc Try.prog Try.f7 false true false false) := by
  refine returnsInHanded_of_change (C := Try.checked) own started (by kernel_rfl) Try.func7
    (ChangeSpec.witness6 (enc := enc) (C := Try.checked) false ⟨#[], #[.agg #[.slice none 0 0], .int .i64 0], []⟩ 8 (by kernel_rfl) (by kernel_rfl) (by kernel_rfl) (by kernel_rfl)) ?_
  intro W base args ds gs before hval0 hW hcnd _
  have hval : ∀ (j : Nat) t v, Try.f7.params[j]? = some t → args[j]? = some v → Value.okWide Try.prog W .any base t v := hval0
  have hW' := hW
  obtain ⟨p, q, hA0, hV, rfl, hfz, hnd⟩ := hW
  have hlt := DataW.TrodAll.lt hA0
  have hA : DataW.TrodAll enc Try.prog W 0 (fun _ => true) true Try.f7.params.toList args.toList ds p := hA0
  rw [Try.params7] at hA hval
  obtain ⟨v0, vs0, d0, ds0, p0, q0, hargs, rfl, rfl, h0, r0⟩ := trodAll_cons hA
  obtain ⟨v1, vs1, d1, ds1, p1, q1, rfl, rfl, rfl, h1, r1⟩ := trodAll_cons r0
  obtain ⟨rfl, rfl, rfl⟩ := trodAll_nil r1
  obtain rfl : args = #[v0, v1] := by cases args; simp_all
  obtain ⟨rfl, rfl⟩ := trodVars_none hV
  have l0 : ∀ x ∈ p0, x.block < W.heap.size := fun x hx => hlt x (by simp [hx])
  have l1 : ∀ x ∈ p1, x.block < W.heap.size := fun x hx => hlt x (by simp [hx])
  have k0 := open_Queue (hval 0 44 v0 rfl rfl) h0
  have k1 := open_I64 Try.underlying2 (hval 1 2 v1 rfl rfl) h1
  clear hA0 hval0
  simp only [List.append_nil] at hW'
  refine (walk W v0 k0 v1 k1).mono fun e W' ⟨he, hg⟩ => ?_
  subst he
  exact ⟨_, rfl, _, _, _, [], _, [], hW', (trodAll_cons_mk (shut_bool Try.underlying4 _) trodAll_mk0), (trodAll_cons_mk (Below.trod (by kernel_rfl) (by kernel_rfl) (of_decide_eq_true (by kernel_rfl)) h0 hg l0) (trodAll_cons_mk (Below.trod (by kernel_rfl) (by kernel_rfl) (of_decide_eq_true (by kernel_rfl)) h1 hg l1) trodAll_mk0)), rfl, hg.frame _, fun h => by cases h⟩

theorem over : Rows.fnExactQueueClearRow.holds Try.pinned (OpenSpec.ofChange Rows.fnExactQueueClearSpec) :=
  OpenClaim.holds_of_wide 7 Try.f7 rfl rfl rfl rfl rfl rfl rfl ⟨rfl, rfl, rfl, rfl, rfl⟩ rfl rfl rfl rfl rfl (by kernel_rfl) Try.func7 (by kernel_rfl)
    (of_decide_eq_true (by kernel_rfl)) (by unfold Func.isWrapper; first | (rw [if_pos (by decide +kernel)]; kernel_rfl) | (rw [if_neg (by decide +kernel)]; exact ⟨rfl, rfl⟩))
    (fun os started H enc _ => lifted os started H enc)

/-- ████ THE STATEMENT ████ -/
theorem proved : Rows.FnExactQueueClearSaid :=
  over
#print axioms proved
end Go.Proofs.Ytmfnbbjhaolhgaa.fnExactQueueClear
