/- For every Queue and every list of Cans the program's QueuePut answers as the model's QueuePut does, in memory of its own. -/
import Derived.Test.YtmfnbbjhaolhgaaRows
import Derived.Test.YtmfnbbjhaolhgaaSpecPut
import Derived.Test.YtmfnbbjhaolhgaaQueueTo
import Derived.Test.YtmfnbbjhaolhgaaLive
import Derived.WalkKit
import Derived.ProofKit
import Derived.OpenShut
import Derived.ShutString
import Derived.ChangeOld
import Derived.Below
import Derived.Carry
namespace Go.Proofs.Ytmfnbbjhaolhgaa.fnExactQueuePut
open Go.ChangeShapes Go.WideShapes Go.ChangeAt Go.RowKit
open Go.ChangeMaps (open_string shut_string)
set_option linter.unusedVariables false

theorem own : ownKnob Try.prog.godebug = none := by kernel_rfl

theorem walk (w : World) (v0 : Value) (k0 : IsQueue w v0) (v1 : Value) (k1 : IsCans w v1) :
    Calls Try.prog 5 #[v0, v1] w fun e w' => e = .returned (.bool true) ∧ Below w.heap.size w w' := by
  obtain ⟨a, cap, q, rfl, hin, hok, hlen⟩ := k0
  obtain ⟨a', cap', l, rfl, hin', hok', hlen'⟩ := k1
  have HS := fun W hW => Lib.hid (szQueue_any a cap q 1048576 W hW hok hlen (by omega) (by omega))
  have HI := Lib.hid hin
  have HI' := Lib.hid hin'
  have HB := Lib.hid (fun o : Obj => (Below.refl w.heap.size w).alloc (Nat.le_refl _) o)
  clear hin hlen hin'
  go_enter Try.func5, Try.ntmps5
  go_wp2_with fail
  refine (HS _ (HI.out.kept (HB.out _))).out.mono ?_
  rintro e w1 ⟨m, rfl, hm0, hm1, hm2, h1⟩
  have HL1 := Lib.hid (((Live.first (Below.refl w.heap.size w)).addRow #[.slice a q.length cap] 44).kept h1)
  by_cases hneg : m < 0
  · have hd : decide (m < 0) = true := decide_eq_true hneg
    go_wp2_with fail
    go_ret
    exact ⟨rfl, HL1.out.below⟩
  have hd : decide (m < 0) = false := decide_eq_false hneg
  have hl : q.length ≤ 1048576 := hm2 (by omega)
  clear hm0 hm2 h1
  go_wp2_with fail
  refine (szCanS_more a' cap' l m _ (HI'.out.kept HL1.out.below) hok' hlen' (by omega) hm1).mono ?_
  rintro e w2 ⟨m', rfl, hm0', hm1', hm2', h2⟩
  have HL2 := Lib.hid (HL1.out.kept h2)
  by_cases hneg' : m' < 0
  · have hd' : decide (m' < 0) = true := decide_eq_true hneg'
    go_wp2_with fail
    go_ret
    exact ⟨rfl, HL2.out.below⟩
  have hd' : decide (m' < 0) = false := decide_eq_false hneg'
  have hl' : l.length ≤ 1048576 := hm2' (by omega)
  have e2 := HL2.out.get (R := w.heap.size) (vs := [.slice a q.length cap]) (by simp) 0 _ rfl
  clear hm0' hm1' hm2' h2 HL1 hm1 hneg hneg' hlen'
  generalize hLL : putL q l = L
  obtain ⟨k, hk⟩ : ∃ k, putCode q l = k := ⟨_, rfl⟩
  have HLen : Hid (L.length ≤ 16) := Lib.hid (by
    rw [← hLL]
    unfold putL
    split
    · rename_i hz
      have := (putCode_zero hz).2.2.2
      simp
      omega
    · simp)
  have HSP := fun W c1 c2 b1 b2 (h1 : CansIn W b1 q) (h2 : CansIn W b2 l) => Lib.hid (specQueuePut_any b1 b2 c1 c2 q l W h1 hok hl h2 hok' hl')
  have HIP := fun W c1 c2 b1 b2 (h1 : CansIn W b1 q) (h2 : CansIn W b2 l) => Lib.hid (implQueuePut_any b1 b2 c1 c2 q l W h1 hok hl h2 hok' hl')
  rw [hLL, hk] at HSP HIP
  clear hLL hk
  -- the model's answer
  go_wp2_with fail
  refine (toQueue_new a cap q _ (HI.out.kept HL2.out.below) hl).mono ?_
  rintro e w3 ⟨g3, rfl, hn3, h3⟩
  have HL3 := Lib.hid ((HL2.out.kept h3).addNew hn3)
  clear e2 h3 hn3 HL2
  go_wp2_with fail
  refine (toCanS_new a' cap' l _ (HI'.out.kept HL3.out.below) hl').mono ?_
  rintro e w4 ⟨rfl, hn4, h4⟩
  have HL4 := Lib.hid ((HL3.out.kept h4).addNew hn4)
  clear h4 hn4 HL3
  go_wp2_with fail
  refine (HSP _ _ _ _ _ (HL4.out.at (lo := w2.heap.size) (hi := w3.heap.size) (by simp)).cans (HL4.out.at (lo := w3.heap.size) (hi := w4.heap.size) (by simp)).cans).out.mono ?_
  rintro e w5 ⟨a5, c5, rfl, hc5, hn5, h5⟩
  have HL5 := Lib.hid ((((HL4.out.kept h5).addNew hn5).addRow #[.slice a5 L.length c5, .int .i64 0, .string ⟨#[]⟩, .int .i64 k] 31).less (rs' := [(w5.heap.size, [.slice a5 L.length c5, .int .i64 0, .string ⟨#[]⟩, .int .i64 k]), (w.heap.size, [.slice a q.length cap])]) (ns' := [(w4.heap.size, w5.heap.size, a5, L)]) (by simp) (by simp))
  have e5 := HL5.out.get (R := w.heap.size) (vs := [.slice a q.length cap]) (by simp) 0 _ rfl
  have s4 : w.heap.size ≤ w4.heap.size := HL4.out.below.size
  have s4' : w.heap.size < w4.heap.size := (HL4.out.row (w.heap.size, [.slice a q.length cap]) (by simp)).lt
  have s5 : w4.heap.size ≤ w5.heap.size := h5.size
  clear h5 hn5 HL4 hc5 HSP
  -- what the program is given, and its answer
  go_wp2_with fail
  refine (toQueue_new a cap q _ (HI.out.kept HL5.out.below) hl).mono ?_
  rintro e w6 ⟨g6, rfl, hn6, h6⟩
  have s6 : w5.heap.size < w6.heap.size := by have := h6.size; simp at this; omega
  simp only [World.size_alloc] at hn6
  have HL6 := Lib.hid (((HL5.out.kept h6).addNew hn6).addRow #[.slice (some ⟨g6, 0, none⟩) q.length q.length] 25)
  clear h6 hn6 HL5 e5
  go_wp2_with fail
  refine (toCanS_new a' cap' l _ (HI'.out.kept HL6.out.below) hl').mono ?_
  rintro e w7 ⟨rfl, hn7, h7⟩
  have s7 : w6.heap.size < w7.heap.size := by have := h7.size; simp at this; omega
  simp only [World.size_alloc] at hn7 ⊢
  have HL7 := Lib.hid ((HL6.out.kept h7).addNew hn7)
  have x7 := HL7.out.get (R := w6.heap.size) (vs := [.slice (some ⟨g6, 0, none⟩) q.length q.length]) (by simp) 0 _ rfl
  clear h7 hn7 HL6
  have sg : w6.heap.size < w6.heap.size + 1 := by omega
  generalize w6.heap.size + 1 = g7 at *
  go_wp2_with fail
  refine (HIP _ _ _ _ _ (HL7.out.at (lo := w5.heap.size + 1) (hi := w6.heap.size) (by simp)).cans (HL7.out.at (lo := g7) (hi := w7.heap.size) (by simp)).cans).out.mono ?_
  rintro e w8 ⟨a8, c8, rfl, hc8, hn8, h8⟩
  have s8 : w7.heap.size ≤ w8.heap.size := h8.size
  have HL8 := Lib.hid ((HL7.out.kept h8).addNew hn8)
  have y0 := HL8.out.get (R := w5.heap.size) (vs := [.slice a5 L.length c5, .int .i64 0, .string ⟨#[]⟩, .int .i64 k]) (by simp) 0 _ rfl
  have y1 := HL8.out.get (R := w5.heap.size) (vs := [.slice a5 L.length c5, .int .i64 0, .string ⟨#[]⟩, .int .i64 k]) (by simp) 1 _ rfl
  have y2 := HL8.out.get (R := w5.heap.size) (vs := [.slice a5 L.length c5, .int .i64 0, .string ⟨#[]⟩, .int .i64 k]) (by simp) 2 _ rfl
  have y3 := HL8.out.get (R := w5.heap.size) (vs := [.slice a5 L.length c5, .int .i64 0, .string ⟨#[]⟩, .int .i64 k]) (by simp) 3 _ rfl
  have HL8' := Lib.hid (HL8.out.addRow #[.slice a8 L.length c8, .int .i64 0, .string ⟨#[]⟩, .int .i64 k] 31)
  have sv : w5.heap.size < w8.heap.size := by omega
  have hL := HLen.out
  clear h8 hn8 hc8 HL7 x7 HL8
  go_wp2_with fail
  refine (eqQueueOut_same _ _ _ _ L _ _ _ _ (HL8'.out.at (lo := w7.heap.size) (hi := w8.heap.size) (by simp)).cans (HL8'.out.at (lo := w4.heap.size) (hi := w5.heap.size) (by simp)).cans (by omega)).mono ?_
  rintro e w9 ⟨rfl, h9⟩
  have HL9 := Lib.hid (HL8'.out.kept h9)
  have x9 := HL9.out.get (R := w6.heap.size) (vs := [.slice (some ⟨g6, 0, none⟩) q.length q.length]) (by simp) 0 _ rfl
  have e9 := HL9.out.get (R := w.heap.size) (vs := [.slice a q.length cap]) (by simp) 0 _ rfl
  have l9 : w6.heap.size < w9.heap.size := (HL9.out.row (w6.heap.size, [.slice (some ⟨g6, 0, none⟩) q.length q.length]) (by simp)).lt
  have l9' : w.heap.size < w9.heap.size := (HL9.out.row (w.heap.size, [.slice a q.length cap]) (by simp)).lt
  clear h9 HL8' y0 y1 y2 y3
  go_wp2_with fail
  -- what it was given reads as before
  go_region_held3 (fun W => (W.cell? ⟨w6.heap.size, 0, none⟩ = some (.slice (some ⟨g6, 0, none⟩) q.length q.length) ∧ W.cell? ⟨w.heap.size, 0, none⟩ = some (.slice a q.length cap)) ∧ Below w9.heap.size w9 W)
    (first | assumption | exact twoS_first x9 e9 | exact twoS_call l9 l9' (by assumption) (by assumption))
    (first
      | (go_at_call 22; refine (toQueue_new a cap q _ (HI.out.kept (twoS_below (by assumption) HL9.out.below HL9.out.below.size)) hl).mono ?_; rintro e w10 ⟨g10, rfl, hn10, h10⟩; have HN10 := Lib.hid hn10; clear hn10)
      | (go_at_call 23; refine (eqQueue_same _ _ _ _ q _ ((HL9.out.at (lo := w5.heap.size + 1) (hi := w6.heap.size) (by simp)).cans.kept (twoS_keeps (by assumption))) HN10.out.cans hl).mono ?_; rintro e w11 ⟨rfl, h11⟩))
  have k11 := twoS_keeps (W := w11) (wr := w9) (p := ⟨w6.heap.size, 0, none⟩) (q := ⟨w.heap.size, 0, none⟩) (by assumption)
  have HL11 := Lib.hid (HL9.out.kept k11)
  clear k11 HL9 x9 e9 l9 l9' h10 h11 HN10
  go_wp2_with fail
  refine (toCanS_new a' cap' l _ (HI'.out.kept HL11.out.below) hl').mono ?_
  rintro e w12 ⟨rfl, hn12, h12⟩
  have HL12 := Lib.hid (HL11.out.kept h12)
  have HN12 := Lib.hid hn12
  clear h12 hn12 HL11
  go_wp2_with fail
  refine (eqCanS_same _ _ _ _ l _ (HL12.out.at (lo := g7) (hi := w7.heap.size) (by simp)).cans HN12.out.cans hl').mono ?_
  rintro e w13 ⟨rfl, h13⟩
  have HL13 := Lib.hid (HL12.out.kept h13)
  have x13 := HL13.out.get (R := w6.heap.size) (vs := [.slice (some ⟨g6, 0, none⟩) q.length q.length]) (by simp) 0 _ rfl
  clear h13 HL12 HN12
  -- every cell of what it was given is written
  obtain ⟨K1, hK1⟩ : ∃ K1, 1 + 2 * q.length = K1 := ⟨_, rfl⟩
  obtain ⟨K2, hK2⟩ : ∃ K2, K1 + 2 * l.length = K2 := ⟨_, rfl⟩
  obtain ⟨K3, hK3⟩ : ∃ K3, 1 + 2 * L.length = K3 := ⟨_, rfl⟩
  have hK : 0 < K1 ∧ K1 ≤ 2200000 ∧ 0 < K2 ∧ K2 ≤ 4400000 ∧ 0 < K3 ∧ K3 ≤ 50 := by omega
  have HM1 := fun W hW => Lib.hid (markQueue_any (lo := w5.heap.size + 1) (hi := w6.heap.size) (some ⟨g6, 0, none⟩) q.length q 1 W hW (by omega) (by omega))
  have HM2 := fun W hW => Lib.hid (markCanS_any (lo := g7) (hi := w7.heap.size) (some ⟨g7, 0, none⟩) l.length l K1 W hW (by omega) (by omega))
  have HM3 := fun W hW => Lib.hid (markQueueOut_any (lo := w7.heap.size) (hi := w8.heap.size) a8 c8 L 0 ⟨#[]⟩ k 1 W hW (by omega) (by omega))
  have HH3 := fun W hW => Lib.hid (heldQueueOut_any a8 c8 L.length 0 ⟨#[]⟩ k 1 W hW (by omega) (by omega))
  rw [hK1] at HM1
  rw [hK2] at HM2
  rw [hK3] at HM3 HH3
  have hd2 : decide ((K2 : Int) < 0) = false := decide_eq_false (by omega)
  have hd3 : decide ((K3 : Int) < 0) = false := decide_eq_false (by omega)
  clear hK1 hK2 hK3
  go_wp2_with fail
  refine (HM1 _ (HL13.out.at (by simp))).out.mono ?_
  rintro e w14 ⟨rfl, hn14, h14⟩
  have HL14 := Lib.hid ((HL13.out.less (ns' := [(w7.heap.size, w8.heap.size, a8, L), (g7, w7.heap.size, some ⟨g7, 0, none⟩, l), (w4.heap.size, w5.heap.size, a5, L)]) (fun r h => h) (by simp)).out h14 (by omega) (by simp; omega) (by simp; omega))
  clear h14 hn14 HL13 x13 HM1
  go_wp2_with fail
  refine (HM2 _ (HL14.out.at (by simp))).out.mono ?_
  rintro e w15 ⟨rfl, hn15, h15⟩
  have HL15 := Lib.hid ((HL14.out.less (ns' := [(w7.heap.size, w8.heap.size, a8, L), (w4.heap.size, w5.heap.size, a5, L)]) (fun r h => h) (by simp)).out h15 (by omega) (by simp; omega) (by simp; omega))
  have y0 := HL15.out.get (R := w5.heap.size) (vs := [.slice a5 L.length c5, .int .i64 0, .string ⟨#[]⟩, .int .i64 k]) (by simp) 0 _ rfl
  have y1 := HL15.out.get (R := w5.heap.size) (vs := [.slice a5 L.length c5, .int .i64 0, .string ⟨#[]⟩, .int .i64 k]) (by simp) 1 _ rfl
  have y2 := HL15.out.get (R := w5.heap.size) (vs := [.slice a5 L.length c5, .int .i64 0, .string ⟨#[]⟩, .int .i64 k]) (by simp) 2 _ rfl
  have y3 := HL15.out.get (R := w5.heap.size) (vs := [.slice a5 L.length c5, .int .i64 0, .string ⟨#[]⟩, .int .i64 k]) (by simp) 3 _ rfl
  have z0 := HL15.out.get (R := w8.heap.size) (vs := [.slice a8 L.length c8, .int .i64 0, .string ⟨#[]⟩, .int .i64 k]) (by simp) 0 _ rfl
  have z1 := HL15.out.get (R := w8.heap.size) (vs := [.slice a8 L.length c8, .int .i64 0, .string ⟨#[]⟩, .int .i64 k]) (by simp) 1 _ rfl
  have z2 := HL15.out.get (R := w8.heap.size) (vs := [.slice a8 L.length c8, .int .i64 0, .string ⟨#[]⟩, .int .i64 k]) (by simp) 2 _ rfl
  have z3 := HL15.out.get (R := w8.heap.size) (vs := [.slice a8 L.length c8, .int .i64 0, .string ⟨#[]⟩, .int .i64 k]) (by simp) 3 _ rfl
  clear h15 hn15 HL14 HM2
  go_wp2_with fail
  refine (eqQueueOut_same _ _ _ _ L _ _ _ _ (HL15.out.at (lo := w7.heap.size) (hi := w8.heap.size) (by simp)).cans (HL15.out.at (lo := w4.heap.size) (hi := w5.heap.size) (by simp)).cans (by omega)).mono ?_
  rintro e w16 ⟨rfl, h16⟩
  have HL16 := Lib.hid (HL15.out.kept h16)
  clear h16 HL15 y0 y1 y2 y3 z0 z1 z2 z3
  have z0 := HL16.out.get (R := w8.heap.size) (vs := [.slice a8 L.length c8, .int .i64 0, .string ⟨#[]⟩, .int .i64 k]) (by simp) 0 _ rfl
  have z1 := HL16.out.get (R := w8.heap.size) (vs := [.slice a8 L.length c8, .int .i64 0, .string ⟨#[]⟩, .int .i64 k]) (by simp) 1 _ rfl
  have z2 := HL16.out.get (R := w8.heap.size) (vs := [.slice a8 L.length c8, .int .i64 0, .string ⟨#[]⟩, .int .i64 k]) (by simp) 2 _ rfl
  have z3 := HL16.out.get (R := w8.heap.size) (vs := [.slice a8 L.length c8, .int .i64 0, .string ⟨#[]⟩, .int .i64 k]) (by simp) 3 _ rfl
  -- every cell of its answer is written, and read
  go_wp2_with fail
  refine (HM3 _ (HL16.out.at (by simp))).out.mono ?_
  rintro e w17 ⟨rfl, hn17, h17⟩
  have HL17 := Lib.hid (((HL16.out.less (ns' := [(w4.heap.size, w5.heap.size, a5, L)]) (fun r h => h) (by simp)).out h17 (by omega) (by simp; omega) (by simp; omega)).addNew hn17)
  clear h17 hn17 HL16 HM3 z0 z1 z2 z3
  have z0 := HL17.out.get (R := w8.heap.size) (vs := [.slice a8 L.length c8, .int .i64 0, .string ⟨#[]⟩, .int .i64 k]) (by simp) 0 _ rfl
  have z1 := HL17.out.get (R := w8.heap.size) (vs := [.slice a8 L.length c8, .int .i64 0, .string ⟨#[]⟩, .int .i64 k]) (by simp) 1 _ rfl
  have z2 := HL17.out.get (R := w8.heap.size) (vs := [.slice a8 L.length c8, .int .i64 0, .string ⟨#[]⟩, .int .i64 k]) (by simp) 2 _ rfl
  have z3 := HL17.out.get (R := w8.heap.size) (vs := [.slice a8 L.length c8, .int .i64 0, .string ⟨#[]⟩, .int .i64 k]) (by simp) 3 _ rfl
  go_wp2_with fail
  refine (HH3 _ (HL17.out.at (lo := w7.heap.size) (hi := w8.heap.size) (by simp)).cans).out.mono ?_
  rintro e w18 ⟨rfl, h18⟩
  have HL18 := Lib.hid (HL17.out.kept h18)
  clear h18 HL17 z0 z1 z2 z3
  have e18 := HL18.out.get (R := w.heap.size) (vs := [.slice a q.length cap]) (by simp) 0 _ rfl
  -- a second answer, in memory of its own
  go_wp2_with fail
  refine (toQueue_new a cap q _ (HI.out.kept HL18.out.below) hl).mono ?_
  rintro e w19 ⟨g19, rfl, hn19, h19⟩
  have HL19 := Lib.hid ((HL18.out.kept h19).addNew hn19)
  clear h19 hn19 HL18 e18
  go_wp2_with fail
  refine (toCanS_new a' cap' l _ (HI'.out.kept HL19.out.below) hl').mono ?_
  rintro e w20 ⟨rfl, hn20, h20⟩
  have HL20 := Lib.hid ((HL19.out.kept h20).addNew hn20)
  clear h20 hn20 HL19
  go_wp2_with fail
  refine (HIP _ _ _ _ _ (HL20.out.at (lo := w18.heap.size) (hi := w19.heap.size) (by simp)).cans (HL20.out.at (lo := w19.heap.size) (hi := w20.heap.size) (by simp)).cans).out.mono ?_
  rintro e w21 ⟨a21, c21, rfl, hc21, hn21, h21⟩
  have HL21 := Lib.hid (((HL20.out.kept h21).less (ns' := [(w7.heap.size, w8.heap.size, a8, marksL 1 L.length), (w4.heap.size, w5.heap.size, a5, L)]) (fun r h => h) (by simp)).addNew hn21)
  have y0 := HL21.out.get (R := w5.heap.size) (vs := [.slice a5 L.length c5, .int .i64 0, .string ⟨#[]⟩, .int .i64 k]) (by simp) 0 _ rfl
  have y1 := HL21.out.get (R := w5.heap.size) (vs := [.slice a5 L.length c5, .int .i64 0, .string ⟨#[]⟩, .int .i64 k]) (by simp) 1 _ rfl
  have y2 := HL21.out.get (R := w5.heap.size) (vs := [.slice a5 L.length c5, .int .i64 0, .string ⟨#[]⟩, .int .i64 k]) (by simp) 2 _ rfl
  have y3 := HL21.out.get (R := w5.heap.size) (vs := [.slice a5 L.length c5, .int .i64 0, .string ⟨#[]⟩, .int .i64 k]) (by simp) 3 _ rfl
  have sv21 : w5.heap.size < w21.heap.size := (HL21.out.row (w5.heap.size, [.slice a5 L.length c5, .int .i64 0, .string ⟨#[]⟩, .int .i64 k]) (by simp)).lt
  have HL21' := Lib.hid (HL21.out.alloc (.cells #[.slice a21 L.length c21, .int .i64 0, .string ⟨#[]⟩, .int .i64 k] 31))
  clear h21 hn21 hc21 HL20 HL21 HIP
  go_wp2_with fail
  refine (eqQueueOut_same _ _ _ _ L _ _ _ _ (HL21'.out.at (lo := w20.heap.size) (hi := w21.heap.size) (by simp)).cans (HL21'.out.at (lo := w4.heap.size) (hi := w5.heap.size) (by simp)).cans (by omega)).mono ?_
  rintro e w22 ⟨rfl, h22⟩
  have HL22 := Lib.hid (HL21'.out.kept h22)
  clear h22 HL21' y0 y1 y2 y3
  have z0 := HL22.out.get (R := w8.heap.size) (vs := [.slice a8 L.length c8, .int .i64 0, .string ⟨#[]⟩, .int .i64 k]) (by simp) 0 _ rfl
  have z1 := HL22.out.get (R := w8.heap.size) (vs := [.slice a8 L.length c8, .int .i64 0, .string ⟨#[]⟩, .int .i64 k]) (by simp) 1 _ rfl
  have z2 := HL22.out.get (R := w8.heap.size) (vs := [.slice a8 L.length c8, .int .i64 0, .string ⟨#[]⟩, .int .i64 k]) (by simp) 2 _ rfl
  have z3 := HL22.out.get (R := w8.heap.size) (vs := [.slice a8 L.length c8, .int .i64 0, .string ⟨#[]⟩, .int .i64 k]) (by simp) 3 _ rfl
  go_wp2_with fail
  refine (HH3 _ (HL22.out.at (lo := w7.heap.size) (hi := w8.heap.size) (by simp)).cans).out.mono ?_
  rintro e w23 ⟨rfl, h23⟩
  have b23 := (HL22.out.kept h23).below
  clear h23 HL22 z0 z1 z2 z3
  go_wp2
  go_ret
  exact ⟨rfl, b23⟩

set_option maxRecDepth 100000 in
theorem lifted (os : Os) (started : os.Started) (H : Type) (enc : TypeId × Value → H) :
    ReturnsInHanded {} Try.checked os 5 .any (Rows.fnExactQueuePutSpec.pre6 enc Try.prog Try.f5 Rows.fnExactQueuePutRow.domain false) (Rows.fnExactQueuePutSpec.post enc Try.prog Try.f5 false true false false) := by
  refine returnsInHanded_of_change (C := Try.checked) own started (by kernel_rfl) Try.func5
    (ChangeSpec.witness6 (enc := enc) (C := Try.checked) false ⟨#[], #[.agg #[.slice none 0 0], .slice none 0 0], []⟩ 8 (by kernel_rfl) (by kernel_rfl) (by kernel_rfl) (by kernel_rfl)) ?_
  intro W base args ds gs before hval0 hW hcnd _
  have hval : ∀ (j : Nat) t v, Try.f5.params[j]? = some t → args[j]? = some v → Value.okWide Try.prog W .any base t v := hval0
  have hW' := hW
  obtain ⟨p, q, hA0, hV, rfl, hfz, hnd⟩ := hW
  have hlt := DataW.TrodAll.lt hA0
  have hA : DataW.TrodAll enc Try.prog W 0 (fun _ => true) true Try.f5.params.toList args.toList ds p := hA0
  rw [Try.params5] at hA hval
  obtain ⟨v0, vs0, d0, ds0, p0, q0, hargs, rfl, rfl, h0, r0⟩ := trodAll_cons hA
  obtain ⟨v1, vs1, d1, ds1, p1, q1, rfl, rfl, rfl, h1, r1⟩ := trodAll_cons r0
  obtain ⟨rfl, rfl, rfl⟩ := trodAll_nil r1
  obtain rfl : args = #[v0, v1] := by cases args; simp_all
  obtain ⟨rfl, rfl⟩ := trodVars_none hV
  have l0 : ∀ x ∈ p0, x.block < W.heap.size := fun x hx => hlt x (by simp [hx])
  have l1 : ∀ x ∈ p1, x.block < W.heap.size := fun x hx => hlt x (by simp [hx])
  have k0 := open_Queue (hval 0 44 v0 rfl rfl) h0
  have k1 := open_Cans (hval 1 42 v1 rfl rfl) h1
  clear hA0 hval0
  simp only [List.append_nil] at hW'
  refine (walk W v0 k0 v1 k1).mono fun e W' ⟨he, hg⟩ => ?_
  subst he
  exact ⟨_, rfl, _, _, _, [], _, [], hW', (trodAll_cons_mk (shut_bool Try.underlying4 _) trodAll_mk0), (trodAll_cons_mk (Below.trod (by kernel_rfl) (by kernel_rfl) (of_decide_eq_true (by kernel_rfl)) h0 hg l0) (trodAll_cons_mk (Below.trod (by kernel_rfl) (by kernel_rfl) (of_decide_eq_true (by kernel_rfl)) h1 hg l1) trodAll_mk0)), rfl, hg.frame _, fun h => by cases h⟩

theorem over : Rows.fnExactQueuePutRow.holds Try.pinned (OpenSpec.ofChange Rows.fnExactQueuePutSpec) :=
  OpenClaim.holds_of_wide 5 Try.f5 rfl rfl rfl rfl rfl rfl rfl ⟨rfl, rfl, rfl, rfl, rfl⟩ rfl rfl rfl rfl rfl (by kernel_rfl) Try.func5 (by kernel_rfl)
    (of_decide_eq_true (by kernel_rfl)) (by unfold Func.isWrapper; first | (rw [if_pos (by decide +kernel)]; kernel_rfl) | (rw [if_neg (by decide +kernel)]; exact ⟨rfl, rfl⟩))
    (fun os started H enc _ => lifted os started H enc)

/-- ████ THE STATEMENT ████ -/
theorem proved : Rows.FnExactQueuePutSaid :=
  over
#print axioms proved
end Go.Proofs.Ytmfnbbjhaolhgaa.fnExactQueuePut
