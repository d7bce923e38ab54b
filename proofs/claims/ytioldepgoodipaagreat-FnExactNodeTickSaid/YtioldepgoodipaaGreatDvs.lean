/- Rows of Devices: their size, a copy, alike, marked, read again by the laws' own functions. Nothing that was there is written, but what is marked. -/
import Derived.Test.YtioldepgoodipaaGreatRsOwn
import Derived.Test.YtioldepgoodipaaGreatQuiet
import Derived.Test.YtioldepgoodipaaGreatNumsTo
import Derived.Test.YtioldepgoodipaaGreatTo
import Derived.Test.YtioldepgoodipaaGreatName
namespace Go.Proofs.YtioldepgoodipaaGreat
open Go.RowKit
set_option linter.unusedVariables false

/-- One of them. -/
structure Dv where
  n : Nm
  ad : Int
  g : Int
/-- Its cells. -/
def dvL (x : Dv) : List Value := [.int .i64 x.n.u, .int .i64 x.n.m, .int .i64 x.n.i, .int .i64 x.n.f, .int .i64 x.n.c, .int .i64 x.n.s, .int .i64 x.n.y, .bool x.n.a, .int .i64 x.ad, .int .i64 x.g]
theorem dvL_len (x : Dv) : (dvL x).length = 10 := rfl
theorem dvL_one (x : Dv) : ∀ u ∈ dvL x, u.oneCell' = true := by
  intro u hu
  simp [dvL] at hu
  rcases hu with rfl | rfl | rfl | rfl | rfl | rfl | rfl | rfl | rfl | rfl <;> rfl
def dvAt (l : List Dv) (i : Nat) : Dv := l[i]?.getD ⟨⟨0, 0, 0, 0, 0, 0, 0, false⟩, 0, 0⟩
theorem dvAt_some {l : List Dv} {i : Nat} (h : i < l.length) : l[i]? = some (dvAt l i) := by
  unfold dvAt
  rw [List.getElem?_eq_getElem h]
  rfl
theorem dvL_nm (n : Nm) (ad g : Int) : .agg (dvL ⟨n, ad, g⟩).toArray = Value.agg #[.int .i64 n.u, .int .i64 n.m, .int .i64 n.i, .int .i64 n.f, .int .i64 n.c, .int .i64 n.s, .int .i64 n.y, .bool n.a, .int .i64 ad, .int .i64 g] := rfl
theorem szDeviceS_any (a : Option Addr) (cap n : Nat) (w : World) (hn : n ≤ maxLen) :
    Calls Tryz.prog 28 #[.slice a n cap, .int .i64 1048576] w fun e w' => ∃ m : Int, e = .returned (.int .i64 m) ∧ (0 ≤ m → n ≤ 1048576) ∧ Below w.heap.size w w' := by
  unfold maxLen at hn
  have hw : IntKind.i64.wrap (1048576 - (n : Int)) = 1048576 - n := IntWalk.i64_in _ (by omega)
  by_cases hbig : 1048576 < n
  · have hd : decide ((1048576 : Int) - (n : Int) < 0) = true := decide_eq_true (by omega)
    go_enter Tryz.func28, Tryz.ntmps28
    go_wp2_with fail
    go_ret
    exact ⟨-1, rfl, fun q => absurd q (by omega), Below.refl _ _⟩
  · have hd : decide ((1048576 : Int) - (n : Int) < 0) = false := decide_eq_false (by omega)
    go_enter Tryz.func28, Tryz.ntmps28
    go_wp2_with fail
    go_ret
    exact ⟨_, rfl, fun _ => by omega, Below.refl _ _⟩
set_option maxRecDepth 100000 in
set_option maxHeartbeats 4000000 in
theorem toDevice_row (x : Dv) (W : World) :
    Calls Tryz.prog 96 #[.agg (dvL x).toArray] W fun e W' => e = .returned (.agg (dvL x).toArray) ∧ Below W.heap.size W W' := by
  have HN := fun W => Lib.hid (toName_any x.n W)
  obtain ⟨⟨n0, n1, n2, n3, n4, n5, n6, n7⟩, ad, g⟩ := x
  unfold dvL
  unfold nmV at HN
  dsimp only at *
  go_enter Tryz.func96, Tryz.ntmps96
  go_wp2_with (first
    | (refine wpList_box_h rfl 165 (.tmp 0) rfl #[.int .i64 n0, .int .i64 n1, .int .i64 n2, .int .i64 n3, .int .i64 n4, .int .i64 n5, .int .i64 n6, .bool n7, .int .i64 ad, .int .i64 g] rfl ?_; intro w1 R1 e1 g1 b1; have HL1 := Lib.hid (show Lg W w1 [(R1, #[.int .i64 n0, .int .i64 n1, .int .i64 n2, .int .i64 n3, .int .i64 n4, .int .i64 n5, .int .i64 n6, .bool n7, .int .i64 ad, .int .i64 g], 165)] [] from (Lg.first W).box e1 g1 b1); clear g1 b1 e1)
    | (refine wpList_alloc_h rfl 162 rfl (.agg #[.int .i64 0, .int .i64 0, .int .i64 0, .int .i64 0, .int .i64 0, .int .i64 0, .int .i64 0, .bool false, .int .i64 0, .int .i64 0]) (by kernel_rfl) #[.int .i64 0, .int .i64 0, .int .i64 0, .int .i64 0, .int .i64 0, .int .i64 0, .int .i64 0, .bool false, .int .i64 0, .int .i64 0] rfl ?_; intro w2 R2 e2 g2 b2; have qR2_R1 : R1 < R2 := Nat.lt_of_lt_of_eq (HL1.out.lt (.head _)) e2; have HL2 := Lib.hid (show Lg W w2 [(R2, #[.int .i64 0, .int .i64 0, .int .i64 0, .int .i64 0, .int .i64 0, .int .i64 0, .int .i64 0, .bool false, .int .i64 0, .int .i64 0], 162), (R1, #[.int .i64 n0, .int .i64 n1, .int .i64 n2, .int .i64 n3, .int .i64 n4, .int .i64 n5, .int .i64 n6, .bool n7, .int .i64 ad, .int .i64 g], 165)] [] from HL1.out.box e2 g2 b2); clear g2 b2 e2)
    | (refine wpList_alloc_h rfl 162 rfl (.agg #[.int .i64 0, .int .i64 0, .int .i64 0, .int .i64 0, .int .i64 0, .int .i64 0, .int .i64 0, .bool false, .int .i64 0, .int .i64 0]) (by kernel_rfl) #[.int .i64 0, .int .i64 0, .int .i64 0, .int .i64 0, .int .i64 0, .int .i64 0, .int .i64 0, .bool false, .int .i64 0, .int .i64 0] rfl ?_; intro w3 R3 e3 g3 b3; have qR3_R2 : R2 < R3 := Nat.lt_of_lt_of_eq (HL2.out.lt (.head _)) e3; have qR3_R1 : R1 < R3 := Nat.lt_of_lt_of_eq (HL2.out.lt (.tail _ (.head _))) e3; have HL3 := Lib.hid (show Lg W w3 [(R3, #[.int .i64 0, .int .i64 0, .int .i64 0, .int .i64 0, .int .i64 0, .int .i64 0, .int .i64 0, .bool false, .int .i64 0, .int .i64 0], 162), (R2, #[.int .i64 0, .int .i64 0, .int .i64 0, .int .i64 0, .int .i64 0, .int .i64 0, .int .i64 0, .bool false, .int .i64 0, .int .i64 0], 162), (R1, #[.int .i64 n0, .int .i64 n1, .int .i64 n2, .int .i64 n3, .int .i64 n4, .int .i64 n5, .int .i64 n6, .bool n7, .int .i64 ad, .int .i64 g], 165)] [] from HL2.out.box e3 g3 b3); clear g3 b3 e3)
    | (refine wpList_load_at rfl 23 (.tmp 4) rfl (R1) 0 rfl 165 #[.int .i64 n0, .int .i64 n1, .int .i64 n2, .int .i64 n3, .int .i64 n4, .int .i64 n5, .int .i64 n6, .bool n7, .int .i64 ad, .int .i64 g] (0, 0) (HL3.out.get (.tail _ (.tail _ (.head _)))) [.int .i64 n0, .int .i64 n1, .int .i64 n2, .int .i64 n3, .int .i64 n4, .int .i64 n5, .int .i64 n6, .bool n7] rfl _ Tryz.underlying23 rfl (by kernel_rfl) ?_)
    | (go_at_call 92; refine ((HN _).out).mono ?_; rintro e w4 ⟨rfl, h⟩; have HL4 := Lib.hid (show Lg W w4 [(R3, #[.int .i64 0, .int .i64 0, .int .i64 0, .int .i64 0, .int .i64 0, .int .i64 0, .int .i64 0, .bool false, .int .i64 0, .int .i64 0], 162), (R2, #[.int .i64 0, .int .i64 0, .int .i64 0, .int .i64 0, .int .i64 0, .int .i64 0, .int .i64 0, .bool false, .int .i64 0, .int .i64 0], 162), (R1, #[.int .i64 n0, .int .i64 n1, .int .i64 n2, .int .i64 n3, .int .i64 n4, .int .i64 n5, .int .i64 n6, .bool n7, .int .i64 ad, .int .i64 g], 165)] [] from HL3.out.kept h); clear h)
    | (refine wpList_put_at rfl 38 (.tmp 7) (.tmp 6) rfl rfl (R3) 0 rfl (.agg #[.int .i64 n0, .int .i64 n1, .int .i64 n2, .int .i64 n3, .int .i64 n4, .int .i64 n5, .int .i64 n6, .bool n7]) rfl #[.int .i64 n0, .int .i64 n1, .int .i64 n2, .int .i64 n3, .int .i64 n4, .int .i64 n5, .int .i64 n6, .bool n7] rfl 162 #[.int .i64 0, .int .i64 0, .int .i64 0, .int .i64 0, .int .i64 0, .int .i64 0, .int .i64 0, .bool false, .int .i64 0, .int .i64 0] #[.int .i64 n0, .int .i64 n1, .int .i64 n2, .int .i64 n3, .int .i64 n4, .int .i64 n5, .int .i64 n6, .bool n7, .int .i64 0, .int .i64 0] (HL4.out.get (.head _)) (by kernel_rfl) (by kernel_rfl) (by kernel_rfl) (by kernel_rfl) ?_; intro w5 g5 o5; have HL5 := Lib.hid (show Lg W w5 [(R3, #[.int .i64 n0, .int .i64 n1, .int .i64 n2, .int .i64 n3, .int .i64 n4, .int .i64 n5, .int .i64 n6, .bool n7, .int .i64 0, .int .i64 0], 162), (R2, #[.int .i64 0, .int .i64 0, .int .i64 0, .int .i64 0, .int .i64 0, .int .i64 0, .int .i64 0, .bool false, .int .i64 0, .int .i64 0], 162), (R1, #[.int .i64 n0, .int .i64 n1, .int .i64 n2, .int .i64 n3, .int .i64 n4, .int .i64 n5, .int .i64 n6, .bool n7, .int .i64 ad, .int .i64 g], 165)] [] from HL4.out.put 0 rfl g5 o5 (List.forall_mem_cons.2 ⟨Nat.ne_of_lt qR3_R2, (List.forall_mem_cons.2 ⟨Nat.ne_of_lt qR3_R1, (fun _ h => nomatch h)⟩)⟩) (fun _ h => nomatch h) rfl); clear g5 o5)
    | (refine wpList_load_one rfl 2 (.tmp 8) rfl (R1) 8 rfl 165 #[.int .i64 n0, .int .i64 n1, .int .i64 n2, .int .i64 n3, .int .i64 n4, .int .i64 n5, .int .i64 n6, .bool n7, .int .i64 ad, .int .i64 g] (0, 0) (HL5.out.get (.tail _ (.tail _ (.head _)))) (.int .i64 ad) rfl _ Tryz.underlying2 rfl (by kernel_rfl) ?_)
    | (refine wpList_put_at rfl 2 (.tmp 10) (.tmp 9) rfl rfl (R3) 8 rfl (.int .i64 ad) rfl #[.int .i64 ad] rfl 162 #[.int .i64 n0, .int .i64 n1, .int .i64 n2, .int .i64 n3, .int .i64 n4, .int .i64 n5, .int .i64 n6, .bool n7, .int .i64 0, .int .i64 0] #[.int .i64 n0, .int .i64 n1, .int .i64 n2, .int .i64 n3, .int .i64 n4, .int .i64 n5, .int .i64 n6, .bool n7, .int .i64 ad, .int .i64 0] (HL5.out.get (.head _)) (by kernel_rfl) (by kernel_rfl) (by kernel_rfl) (by kernel_rfl) ?_; intro w6 g6 o6; have HL6 := Lib.hid (show Lg W w6 [(R3, #[.int .i64 n0, .int .i64 n1, .int .i64 n2, .int .i64 n3, .int .i64 n4, .int .i64 n5, .int .i64 n6, .bool n7, .int .i64 ad, .int .i64 0], 162), (R2, #[.int .i64 0, .int .i64 0, .int .i64 0, .int .i64 0, .int .i64 0, .int .i64 0, .int .i64 0, .bool false, .int .i64 0, .int .i64 0], 162), (R1, #[.int .i64 n0, .int .i64 n1, .int .i64 n2, .int .i64 n3, .int .i64 n4, .int .i64 n5, .int .i64 n6, .bool n7, .int .i64 ad, .int .i64 g], 165)] [] from HL5.out.put 0 rfl g6 o6 (List.forall_mem_cons.2 ⟨Nat.ne_of_lt qR3_R2, (List.forall_mem_cons.2 ⟨Nat.ne_of_lt qR3_R1, (fun _ h => nomatch h)⟩)⟩) (fun _ h => nomatch h) rfl); clear g6 o6)
    | (refine wpList_load_one rfl 2 (.tmp 11) rfl (R1) 9 rfl 165 #[.int .i64 n0, .int .i64 n1, .int .i64 n2, .int .i64 n3, .int .i64 n4, .int .i64 n5, .int .i64 n6, .bool n7, .int .i64 ad, .int .i64 g] (0, 0) (HL6.out.get (.tail _ (.tail _ (.head _)))) (.int .i64 g) rfl _ Tryz.underlying2 rfl (by kernel_rfl) ?_)
    | (refine wpList_put_at rfl 2 (.tmp 13) (.tmp 12) rfl rfl (R3) 9 rfl (.int .i64 g) rfl #[.int .i64 g] rfl 162 #[.int .i64 n0, .int .i64 n1, .int .i64 n2, .int .i64 n3, .int .i64 n4, .int .i64 n5, .int .i64 n6, .bool n7, .int .i64 ad, .int .i64 0] #[.int .i64 n0, .int .i64 n1, .int .i64 n2, .int .i64 n3, .int .i64 n4, .int .i64 n5, .int .i64 n6, .bool n7, .int .i64 ad, .int .i64 g] (HL6.out.get (.head _)) (by kernel_rfl) (by kernel_rfl) (by kernel_rfl) (by kernel_rfl) ?_; intro w7 g7 o7; have HL7 := Lib.hid (show Lg W w7 [(R3, #[.int .i64 n0, .int .i64 n1, .int .i64 n2, .int .i64 n3, .int .i64 n4, .int .i64 n5, .int .i64 n6, .bool n7, .int .i64 ad, .int .i64 g], 162), (R2, #[.int .i64 0, .int .i64 0, .int .i64 0, .int .i64 0, .int .i64 0, .int .i64 0, .int .i64 0, .bool false, .int .i64 0, .int .i64 0], 162), (R1, #[.int .i64 n0, .int .i64 n1, .int .i64 n2, .int .i64 n3, .int .i64 n4, .int .i64 n5, .int .i64 n6, .bool n7, .int .i64 ad, .int .i64 g], 165)] [] from HL6.out.put 0 rfl g7 o7 (List.forall_mem_cons.2 ⟨Nat.ne_of_lt qR3_R2, (List.forall_mem_cons.2 ⟨Nat.ne_of_lt qR3_R1, (fun _ h => nomatch h)⟩)⟩) (fun _ h => nomatch h) rfl); clear g7 o7)
    | (refine wpList_load_at rfl 162 (.tmp 3) rfl (R3) 0 rfl 162 #[.int .i64 n0, .int .i64 n1, .int .i64 n2, .int .i64 n3, .int .i64 n4, .int .i64 n5, .int .i64 n6, .bool n7, .int .i64 ad, .int .i64 g] (0, 0) (HL7.out.get (.head _)) [.int .i64 n0, .int .i64 n1, .int .i64 n2, .int .i64 n3, .int .i64 n4, .int .i64 n5, .int .i64 n6, .bool n7, .int .i64 ad, .int .i64 g] rfl _ Tryz.underlying162 rfl (by kernel_rfl) ?_)
    | (refine wpList_put_at rfl 162 (.tmp 2) (.tmp 14) rfl rfl (R2) 0 rfl (.agg #[.int .i64 n0, .int .i64 n1, .int .i64 n2, .int .i64 n3, .int .i64 n4, .int .i64 n5, .int .i64 n6, .bool n7, .int .i64 ad, .int .i64 g]) rfl #[.int .i64 n0, .int .i64 n1, .int .i64 n2, .int .i64 n3, .int .i64 n4, .int .i64 n5, .int .i64 n6, .bool n7, .int .i64 ad, .int .i64 g] rfl 162 #[.int .i64 0, .int .i64 0, .int .i64 0, .int .i64 0, .int .i64 0, .int .i64 0, .int .i64 0, .bool false, .int .i64 0, .int .i64 0] #[.int .i64 n0, .int .i64 n1, .int .i64 n2, .int .i64 n3, .int .i64 n4, .int .i64 n5, .int .i64 n6, .bool n7, .int .i64 ad, .int .i64 g] (HL7.out.get (.tail _ (.head _))) (by kernel_rfl) (by kernel_rfl) (by kernel_rfl) (by kernel_rfl) ?_; intro w8 g8 o8; have HL8 := Lib.hid (show Lg W w8 [(R3, #[.int .i64 n0, .int .i64 n1, .int .i64 n2, .int .i64 n3, .int .i64 n4, .int .i64 n5, .int .i64 n6, .bool n7, .int .i64 ad, .int .i64 g], 162), (R2, #[.int .i64 n0, .int .i64 n1, .int .i64 n2, .int .i64 n3, .int .i64 n4, .int .i64 n5, .int .i64 n6, .bool n7, .int .i64 ad, .int .i64 g], 162), (R1, #[.int .i64 n0, .int .i64 n1, .int .i64 n2, .int .i64 n3, .int .i64 n4, .int .i64 n5, .int .i64 n6, .bool n7, .int .i64 ad, .int .i64 g], 165)] [] from HL7.out.put 1 rfl g8 o8 (List.forall_mem_cons.2 ⟨Nat.ne_of_gt qR3_R2, (List.forall_mem_cons.2 ⟨Nat.ne_of_lt qR2_R1, (fun _ h => nomatch h)⟩)⟩) (fun _ h => nomatch h) rfl); clear g8 o8))
  exact bodyPost_ret (results_cell_row (p := 2) (ty := 162) (by kernel_rfl) _ _ (R2) 162 _ (0, 0) _ rfl (HL8.out.get (.tail _ (.head _))) Tryz.underlying162 rfl (by kernel_rfl)) rfl ⟨rfl, HL8.out.below⟩
theorem DeviceTo.info : (Tryz.prog.info? 162).map (fun i => (i.zero, i.size, i.bytes)) = some (some (.agg #[.int .i64 0, .int .i64 0, .int .i64 0, .int .i64 0, .int .i64 0, .int .i64 0, .int .i64 0, .bool false, .int .i64 0, .int .i64 0]), 10, 80) := by kernel_rfl
set_option maxRecDepth 100000 in
set_option maxHeartbeats 2000000 in
theorem toDeviceS_new (a : Option Addr) (cap : Nat) (l : List Dv) (w : World) (h : RsIn dvL 10 w a l) (hlen : l.length ≤ 1048576) :
    Calls Tryz.prog 42 #[.slice a l.length cap] w fun e w' => ∃ a', e = .returned (.slice a' l.length l.length) ∧ RsNew dvL 10 162 w.heap.size w'.heap.size w' a' l ∧ Below w.heap.size w w' := by
  obtain ⟨i0, hi, hz0, hz1, hz2⟩ := info_parts DeviceTo.info
  obtain ⟨N, hN⟩ : ∃ N, l.length = N := ⟨_, rfl⟩
  have HN := Lib.hid hN
  have HH := Lib.hid h
  rw [hN] at hlen ⊢
  clear hN h
  go_enter Tryz.func42, Tryz.ntmps42
  go_wp2_with (at_make; refine wpList_make_full _ rfl (.tmp 6) (.tmp 6) 45 rfl w.heap.size 162 i0 (.agg #[.int .i64 0, .int .i64 0, .int .i64 0, .int .i64 0, .int .i64 0, .int .i64 0, .int .i64 0, .bool false, .int .i64 0, .int .i64 0]) 10 Tryz.underlying45 hi hz0 hz1 .i64 .i64 (N : Int) (N : Int) N (by rfl) (by rfl) (by omega) (by omega) (by rw [hz2]; omega) (by unfold maxLen; omega) (Nat.le_refl _) ?_; intro w1 hown hgrow)
  have hb1 : Below w.heap.size w w1 := (Below.refl _ _).grown hgrow (Nat.le_refl _) (fun _ h => by cases h)
  rcases Nat.eq_zero_or_pos N with hN0 | hN0
  · subst hN0
    have hl : l = [] := List.eq_nil_of_length_eq_zero HN.out
    clear hown hgrow
    refine wp_loop_rounds 1 ?_
    rw [rounds_succ]; go_wp2
    go_ret
    exact ⟨_, rfl, .inl (by first | exact hl | rfl), hb1⟩
  obtain ⟨row0, hg0, hs0⟩ : ∃ row0, w1.heap[w.heap.size]? = some (.cells row0 162 (0, 0)) ∧ row0.size = N * 10 := by
    rcases hown.2 with ⟨h', _⟩ | ⟨g', cap', cur, h', _, hg, _, _, hc, _⟩
    · simp at h'
    · simp only [Value.slice.injEq, Option.some.injEq, Addr.mk.injEq, and_true, true_and] at h'
      obtain ⟨rfl, rfl⟩ := h'
      exact ⟨cur, hg, hc⟩
  have HG0 := Lib.hid hg0
  have HS0 := Lib.hid hs0
  clear hown hgrow hg0 hs0
  obtain ⟨b, o, rfl, hlt, hc⟩ := HH.out.at (by have := HN.out; omega)
  have HI := Lib.hid hc
  clear hc HH
  go_loopw [4] (fun i wr => ∃ (k : Nat) (row : Array Value), i = .int .i64 (k : Int) ∧ k ≤ N ∧ Below w.heap.size w wr ∧ wr.heap[w.heap.size]? = some (.cells row 162 (0, 0)) ∧ row.size = N * 10 ∧
    (∀ j, j < k → ∀ c v, (dvL (dvAt l j))[c]? = some v → row[j * 10 + c]? = some v)) (fun i _ => N - (intOf i).toNat)
  case atStart => exact ⟨0, row0, rfl, by omega, hb1, HG0.out, HS0.out, fun j hj => absurd hj (by omega)⟩
  case round =>
    obtain ⟨k, row, rfl, hk, hb, hgr, hrs, hdone⟩ := hrel
    have HD := Lib.hid hdone
    have HR := Lib.hid hgr
    have HRs := Lib.hid hrs
    have hsz : w.heap.size < wr.heap.size := (Array.getElem?_eq_some_iff.1 hgr).1
    clear hdone hgr hrs
    by_cases hkn : k < N
    · have hkl : k < l.length := by have := HN.out; omega
      have hi1 : (0 : Int) ≤ (k : Int) := by omega
      have hi2 : (k : Int) < (N : Int) := by omega
      have HCs := Lib.hid (fun j v hv => (hb.cell (p := ⟨b, _, none⟩) hlt).trans (HI.out k _ (dvAt_some hkl) j v hv))
      go_wp2_with (refine wpList_load_cells rfl 165 (.tmp 18) rfl b (o + k * 10) rfl (dvL (dvAt l k)) HCs.out _ Tryz.underlying165 rfl (by kernel_rfl) ?_)
      refine (toDevice_row _ _).mono ?_
      rintro e w2 ⟨rfl, h2⟩
      have hg2 := (h2.block _ hsz).trans HR.out
      have HG2 := Lib.hid hg2
      clear hg2
      go_wp2_with (refine wpList_put_at rfl 162 (.tmp 21) (.tmp 20) rfl rfl (w.heap.size) (k * 10) rfl (.agg (dvL (dvAt l k)).toArray) rfl (dvL (dvAt l k)).toArray rfl 162 row _ HG2.out (by kernel_rfl) (Nat.ble_eq_true_of_le (by show k * 10 + 10 ≤ row.size; rw [HRs.out]; omega)) (by rfl) rfl ?_; intro w3 g3 o3; have HG3 := Lib.hid g3; have HO3 := Lib.hid o3; clear g3 o3)
      go_roundw
      case rel =>
        refine ⟨k + 1, _, by go_num, by omega, ?_, HG3.out, by rw [setAll_size, HRs.out], fun j hj c v hv => ?_⟩
        · exact HO3.out.below (hb.trans (h2.mono (Nat.le_of_lt hsz))) (Nat.le_refl _) (Nat.le_trans (Nat.le_of_lt hsz) h2.size)
        · have hc7 : c < 10 := by
            have := (List.getElem?_eq_some_iff.1 hv).1
            rwa [dvL_len] at this
          rcases Nat.lt_or_ge j k with h | h
          · rw [setAll_off _ _ _ _ (.inl (by omega))]
            exact HD.out j h c v hv
          · obtain rfl : j = k := by omega
            exact setAll_at _ _ _ _ _ (by show j * 10 + 10 ≤ row.size; rw [HRs.out]; omega) hv
      case measure => simp [intOf]; omega
    · have hge : N ≤ k := by omega
      go_wp2_with fail
      go_ret
      exact ⟨_, rfl, .inr ⟨w.heap.size, 0, row, rfl, Nat.le_refl _, hsz, HR.out, by rw [HRs.out, HN.out]; omega, fun i x hx c v hv => by
        have hi : i < l.length := (List.getElem?_eq_some_iff.1 hx).1
        rw [dvAt_some hi] at hx
        obtain rfl := Option.some.inj hx
        rw [Nat.zero_add]
        exact HD.out i (by have := HN.out; omega) c v hv⟩, hb⟩
set_option maxRecDepth 100000 in
set_option maxHeartbeats 4000000 in
theorem eqDevice_row (x : Dv) (W : World) :
    Calls Tryz.prog 111 #[.agg (dvL x).toArray, .agg (dvL x).toArray] W fun e W' => e = .returned (.bool true) ∧ Below W.heap.size W W' := by
  have HN := fun W => Lib.hid (eqName_same x.n W)
  obtain ⟨⟨n0, n1, n2, n3, n4, n5, n6, n7⟩, ad, g⟩ := x
  unfold dvL
  unfold nmV at HN
  dsimp only at *
  have z1 : (ad != ad) = false := by simp
  have z2 : (g != g) = false := by simp
  go_enter Tryz.func111, Tryz.ntmps111
  go_wp2_with (first
    | (refine wpList_box_h rfl 162 (.tmp 0) rfl #[.int .i64 n0, .int .i64 n1, .int .i64 n2, .int .i64 n3, .int .i64 n4, .int .i64 n5, .int .i64 n6, .bool n7, .int .i64 ad, .int .i64 g] rfl ?_; intro w1 R1 e1 g1 b1; have HL1 := Lib.hid (show Lg W w1 [(R1, #[.int .i64 n0, .int .i64 n1, .int .i64 n2, .int .i64 n3, .int .i64 n4, .int .i64 n5, .int .i64 n6, .bool n7, .int .i64 ad, .int .i64 g], 162)] [] from (Lg.first W).box e1 g1 b1); clear g1 b1 e1)
    | (refine wpList_box_h rfl 162 (.tmp 1) rfl #[.int .i64 n0, .int .i64 n1, .int .i64 n2, .int .i64 n3, .int .i64 n4, .int .i64 n5, .int .i64 n6, .bool n7, .int .i64 ad, .int .i64 g] rfl ?_; intro w2 R2 e2 g2 b2; have qR2_R1 : R1 < R2 := Nat.lt_of_lt_of_eq (HL1.out.lt (.head _)) e2; have HL2 := Lib.hid (show Lg W w2 [(R2, #[.int .i64 n0, .int .i64 n1, .int .i64 n2, .int .i64 n3, .int .i64 n4, .int .i64 n5, .int .i64 n6, .bool n7, .int .i64 ad, .int .i64 g], 162), (R1, #[.int .i64 n0, .int .i64 n1, .int .i64 n2, .int .i64 n3, .int .i64 n4, .int .i64 n5, .int .i64 n6, .bool n7, .int .i64 ad, .int .i64 g], 162)] [] from HL1.out.box e2 g2 b2); clear g2 b2 e2)
    | (refine wpList_load_at rfl 38 (.tmp 5) rfl (R1) 0 rfl 162 #[.int .i64 n0, .int .i64 n1, .int .i64 n2, .int .i64 n3, .int .i64 n4, .int .i64 n5, .int .i64 n6, .bool n7, .int .i64 ad, .int .i64 g] (0, 0) (HL2.out.get (.tail _ (.head _))) [.int .i64 n0, .int .i64 n1, .int .i64 n2, .int .i64 n3, .int .i64 n4, .int .i64 n5, .int .i64 n6, .bool n7] rfl _ Tryz.underlying38 rfl (by kernel_rfl) ?_)
    | (refine wpList_load_at rfl 38 (.tmp 7) rfl (R2) 0 rfl 162 #[.int .i64 n0, .int .i64 n1, .int .i64 n2, .int .i64 n3, .int .i64 n4, .int .i64 n5, .int .i64 n6, .bool n7, .int .i64 ad, .int .i64 g] (0, 0) (HL2.out.get (.head _)) [.int .i64 n0, .int .i64 n1, .int .i64 n2, .int .i64 n3, .int .i64 n4, .int .i64 n5, .int .i64 n6, .bool n7] rfl _ Tryz.underlying38 rfl (by kernel_rfl) ?_)
    | (go_at_call 107; refine ((HN _).out).mono ?_; rintro e w3 ⟨rfl, h⟩; have HL3 := Lib.hid (show Lg W w3 [(R2, #[.int .i64 n0, .int .i64 n1, .int .i64 n2, .int .i64 n3, .int .i64 n4, .int .i64 n5, .int .i64 n6, .bool n7, .int .i64 ad, .int .i64 g], 162), (R1, #[.int .i64 n0, .int .i64 n1, .int .i64 n2, .int .i64 n3, .int .i64 n4, .int .i64 n5, .int .i64 n6, .bool n7, .int .i64 ad, .int .i64 g], 162)] [] from HL2.out.kept h); clear h)
    | (refine wpList_load_one rfl 2 (.tmp 11) rfl (R1) 8 rfl 162 #[.int .i64 n0, .int .i64 n1, .int .i64 n2, .int .i64 n3, .int .i64 n4, .int .i64 n5, .int .i64 n6, .bool n7, .int .i64 ad, .int .i64 g] (0, 0) (HL3.out.get (.tail _ (.head _))) (.int .i64 ad) rfl _ Tryz.underlying2 rfl (by kernel_rfl) ?_)
    | (refine wpList_load_one rfl 2 (.tmp 13) rfl (R2) 8 rfl 162 #[.int .i64 n0, .int .i64 n1, .int .i64 n2, .int .i64 n3, .int .i64 n4, .int .i64 n5, .int .i64 n6, .bool n7, .int .i64 ad, .int .i64 g] (0, 0) (HL3.out.get (.head _)) (.int .i64 ad) rfl _ Tryz.underlying2 rfl (by kernel_rfl) ?_)
    | (refine wpList_load_one rfl 2 (.tmp 16) rfl (R1) 9 rfl 162 #[.int .i64 n0, .int .i64 n1, .int .i64 n2, .int .i64 n3, .int .i64 n4, .int .i64 n5, .int .i64 n6, .bool n7, .int .i64 ad, .int .i64 g] (0, 0) (HL3.out.get (.tail _ (.head _))) (.int .i64 g) rfl _ Tryz.underlying2 rfl (by kernel_rfl) ?_)
    | (refine wpList_load_one rfl 2 (.tmp 18) rfl (R2) 9 rfl 162 #[.int .i64 n0, .int .i64 n1, .int .i64 n2, .int .i64 n3, .int .i64 n4, .int .i64 n5, .int .i64 n6, .bool n7, .int .i64 ad, .int .i64 g] (0, 0) (HL3.out.get (.head _)) (.int .i64 g) rfl _ Tryz.underlying2 rfl (by kernel_rfl) ?_))
  go_ret
  exact ⟨rfl, HL3.out.below⟩
set_option maxRecDepth 100000 in
set_option maxHeartbeats 2000000 in
theorem eqDeviceS_same (a a' : Option Addr) (cap cap' : Nat) (l : List Dv) (w : World) (h : RsIn dvL 10 w a l) (h' : RsIn dvL 10 w a' l) (hlen : l.length ≤ 1048576) :
    Calls Tryz.prog 54 #[.slice a l.length cap, .slice a' l.length cap'] w fun e w' => e = .returned (.bool true) ∧ Below w.heap.size w w' := by
  obtain ⟨N, hN⟩ : ∃ N, l.length = N := ⟨_, rfl⟩
  have HN := Lib.hid hN
  have HI := Lib.hid h
  have HI' := Lib.hid h'
  rw [hN] at hlen ⊢
  clear hN h h'
  go_enter Tryz.func54, Tryz.ntmps54
  go_wp2_with fail
  go_loopw [5] (fun i wr => ∃ k : Nat, i = .int .i64 (k : Int) ∧ k ≤ N ∧ Below w.heap.size w wr) (fun i _ => N - (intOf i).toNat)
  case atStart => exact ⟨0, rfl, by omega, Below.refl _ _⟩
  case round =>
    obtain ⟨k, rfl, hk, hb⟩ := hrel
    by_cases hkn : k < N
    · have hkl : k < l.length := by have := HN.out; omega
      have hi1 : (0 : Int) ≤ (k : Int) := by omega
      have hi2 : (k : Int) < (N : Int) := by omega
      obtain ⟨b, o, rfl, hlt, hc⟩ := HI.out.at (by omega)
      obtain ⟨b', o', rfl, hlt', hc'⟩ := HI'.out.at (by omega)
      have lB : b < wr.heap.size := Nat.lt_of_lt_of_le hlt hb.size
      have lB' : b' < wr.heap.size := Nat.lt_of_lt_of_le hlt' hb.size
      have HC := Lib.hid (fun j v hv => (hb.cell (p := ⟨b, _, none⟩) hlt).trans (hc k _ (dvAt_some hkl) j v hv))
      have HC' := Lib.hid (fun j v hv => (hb.cell (p := ⟨b', _, none⟩) hlt').trans (hc' k _ (dvAt_some hkl) j v hv))
      clear hc hc'
      generalize dvAt l k = x at *
      go_wp2_with fail
      refine wp_region_quiet (C := fun W => Below wr.heap.size wr W) (by kernel_rfl) (by kernel_rfl) (Below.refl _ _).drew ?_
      dsimp only
      go_big_quiet_want; go_big_quiet_op; first | go_big_quiet_on | (refine ⟨_, fun _ _ => rfl, ?_⟩; go_big_quiet_on)
      go_big_quiet_want; go_big_quiet_op; first | go_big_quiet_on | (refine ⟨_, fun _ _ => rfl, ?_⟩; go_big_quiet_on)
      go_big_quiet_want; go_big_quiet_op; first | go_big_quiet_on | (refine ⟨_, fun _ _ => rfl, ?_⟩; go_big_quiet_on)
      go_big_quiet_want; refine ⟨.agg (dvL x).toArray, fun W hW => (quietLoadCells 162 (.tmp 19) rfl b (o + k * 10) rfl (dvL x) (grownCells lB HC.out hW) _ Tryz.underlying162 rfl (by kernel_rfl)), ?_⟩; simp only [Act.put, List.setIfInBounds_toArray, List.set_cons_zero, List.set_cons_succ]; go_big_quiet_on
      go_big_quiet_want; go_big_quiet_op; first | go_big_quiet_on | (refine ⟨_, fun _ _ => rfl, ?_⟩; go_big_quiet_on)
      go_big_quiet_want; go_big_quiet_op; first | go_big_quiet_on | (refine ⟨_, fun _ _ => rfl, ?_⟩; go_big_quiet_on)
      go_big_quiet_want; go_big_quiet_op; first | go_big_quiet_on | (refine ⟨_, fun _ _ => rfl, ?_⟩; go_big_quiet_on)
      go_big_quiet_want; refine ⟨.agg (dvL x).toArray, fun W hW => (quietLoadCells 162 (.tmp 23) rfl b' (o' + k * 10) rfl (dvL x) (grownCells lB' HC'.out hW) _ Tryz.underlying162 rfl (by kernel_rfl)), ?_⟩; simp only [Act.put, List.setIfInBounds_toArray, List.set_cons_zero, List.set_cons_succ]; go_big_quiet_on
      go_big_quiet_want; go_big_quiet_op; refine ⟨_, fun W hW => quietCall hW (eqDevice_row x W), ?_⟩; go_big_quiet_on
      go_big_quiet_want; go_big_quiet_op; first | go_big_quiet_on | (refine ⟨_, fun _ _ => rfl, ?_⟩; go_big_quiet_on)
      refine wpQuiet_nil ?_
      intro X hX
      go_wp2_with fail
      go_roundw
      case rel => exact ⟨k + 1, by go_num, by omega, hb.trans (hX.mono hb.size)⟩
      case measure => simp [intOf]; omega
    · go_wp2_with fail
      go_ret
      exact ⟨rfl, hb⟩
/-- The marks from q on. -/
def markDv (q : Nat) : Dv := ⟨⟨((q : Nat) : Int), ((q + 1 : Nat) : Int), ((q + 2 : Nat) : Int), ((q + 3 : Nat) : Int), ((q + 4 : Nat) : Int), ((q + 5 : Nat) : Int), ((q + 6 : Nat) : Int), (((q + 7 : Nat) : Int) % 3 == 0)⟩, ((q + 8 : Nat) : Int), ((q + 9 : Nat) : Int)⟩
/-- m of them from k on. -/
def marksDv (k m : Nat) : List Dv := (List.range m).map fun i => markDv (k + 10 * i)
theorem marksDv_length (k m : Nat) : (marksDv k m).length = m := by simp [marksDv]
theorem marksDv_at {k m i : Nat} {x : Dv} (h : (marksDv k m)[i]? = some x) : i < m ∧ x = markDv (k + 10 * i) := by
  unfold marksDv at h
  rw [List.getElem?_map] at h
  obtain ⟨j, hj, rfl⟩ := Option.map_eq_some_iff.1 h
  obtain ⟨hi, rfl⟩ := List.getElem?_eq_some_iff.1 hj
  have hi' : i < m := by simpa using hi
  simp [hi']
theorem marksDv_get {k m i : Nat} (h : i < m) : (marksDv k m)[i]? = some (markDv (k + 10 * i)) := by
  unfold marksDv
  rw [List.getElem?_map, List.getElem?_range h]
  rfl
set_option maxRecDepth 100000 in
set_option maxHeartbeats 8000000 in
theorem markDeviceS_any {lo hi : Nat} (a : Option Addr) (cap : Nat) (l : List Dv) (k : Nat) (w : World) (h : RsNew dvL 10 162 lo hi w a l) (hk0 : 0 < k) (hk : k + 10 * l.length ≤ 30000000) :
    Calls Tryz.prog 60 #[.slice a l.length cap, .int .i64 (k : Int)] w fun e w' => e = .returned (.int .i64 ((k + 10 * l.length : Nat) : Int)) ∧ RsNew dvL 10 162 lo hi w' a (marksDv k l.length) ∧ Out lo hi w w' := by
  obtain ⟨N, hN⟩ : ∃ N, l.length = N := ⟨_, rfl⟩
  have HN := Lib.hid hN
  rcases Nat.eq_zero_or_pos N with hN0 | hN0
  · rw [hN]
    subst hN0
    clear hN h
    go_enter Tryz.func60, Tryz.ntmps60
    go_wp2
    refine wp_loop_rounds 1 ?_
    rw [rounds_succ]; go_wp2
    go_ret
    exact ⟨rfl, .inl (by first | rfl | (simp [marksDv])), Out.refl _ _ _⟩
  obtain ⟨b, o, row0, rfl, hlo, hhi, hg0, hs0⟩ : ∃ b o row, a = some ⟨b, o, none⟩ ∧ lo ≤ b ∧ b < hi ∧ w.heap[b]? = some (.cells row 162 (0, 0)) ∧ o + N * 10 ≤ row.size := by
    rcases h with h | ⟨b, o, row, h1, h2, h3, h4, h5, h6⟩
    · rw [h] at hN
      simp at hN
      omega
    · rw [hN] at h5
      exact ⟨b, o, row, h1, h2, h3, h4, h5⟩
  have HG0 := Lib.hid hg0
  have hN8 : N ≤ 30000000 := by omega
  have HS0 := Lib.hid hs0
  rw [hN] at hk ⊢
  clear hN h hg0 hs0
  go_enter Tryz.func60, Tryz.ntmps60
  go_wp2_with fail
  go_loopw [1, 5] (fun u i wr => ∃ (m : Nat) (row : Array Value), i = .int .i64 (m : Int) ∧ u = .int .i64 ((k + 10 * m : Nat) : Int) ∧ m ≤ N ∧ Out lo hi w wr ∧ wr.heap[b]? = some (.cells row 162 (0, 0)) ∧ o + N * 10 ≤ row.size ∧
    (∀ j, j < m → ∀ c v, (dvL (markDv (k + 10 * j)))[c]? = some v → row[o + j * 10 + c]? = some v)) (fun _ i _ => N - (intOf i).toNat)
  case atStart => exact ⟨0, row0, rfl, rfl, by omega, Out.refl _ _ _, HG0.out, HS0.out, fun j hj => absurd hj (by omega)⟩
  case round =>
    obtain ⟨m, row, rfl, rfl, hm, hb, hgr, hrs, hdone⟩ := hrel
    have HD := Lib.hid hdone
    have HA := Lib.hid hgr
    have HB := Lib.hid hb
    have HRS := Lib.hid hrs
    clear hdone hgr hb HG0 HS0
    by_cases hmn : m < N
    · have hi1 : (0 : Int) ≤ (m : Int) := by omega
      have hi2 : (m : Int) < (N : Int) := by omega
      have hq : k + 10 * m + 10 ≤ 30000000 := by omega
      have hroom : o + m * 10 + 10 ≤ row.size := by omega
      have HK := Lib.hid (show k + 10 * (m + 1) = k + 10 * m + 10 by omega)
      obtain ⟨q, eq⟩ : ∃ q, k + 10 * m = q := ⟨_, rfl⟩
      have hq0 : 0 < q := by omega
      have HQ := Lib.hid eq
      rw [eq] at hq HK ⊢
      clear eq
      have w0_ : IntKind.i64.wrap (((q : Nat) : Int) + 1) = ((q + 1 : Nat) : Int) := by rw [IntWalk.i64_in _ (by omega)]; omega
      have w1_ : IntKind.i64.wrap (((q + 1 : Nat) : Int) + 1) = ((q + 2 : Nat) : Int) := by rw [IntWalk.i64_in _ (by omega)]; omega
      have w2_ : IntKind.i64.wrap (((q + 2 : Nat) : Int) + 1) = ((q + 3 : Nat) : Int) := by rw [IntWalk.i64_in _ (by omega)]; omega
      have w3_ : IntKind.i64.wrap (((q + 3 : Nat) : Int) + 1) = ((q + 4 : Nat) : Int) := by rw [IntWalk.i64_in _ (by omega)]; omega
      have w4_ : IntKind.i64.wrap (((q + 4 : Nat) : Int) + 1) = ((q + 5 : Nat) : Int) := by rw [IntWalk.i64_in _ (by omega)]; omega
      have w5_ : IntKind.i64.wrap (((q + 5 : Nat) : Int) + 1) = ((q + 6 : Nat) : Int) := by rw [IntWalk.i64_in _ (by omega)]; omega
      have w6_ : IntKind.i64.wrap (((q + 6 : Nat) : Int) + 1) = ((q + 7 : Nat) : Int) := by rw [IntWalk.i64_in _ (by omega)]; omega
      have w7_ : IntKind.i64.wrap (((q + 7 : Nat) : Int) + 1) = ((q + 8 : Nat) : Int) := by rw [IntWalk.i64_in _ (by omega)]; omega
      have w8_ : IntKind.i64.wrap (((q + 8 : Nat) : Int) + 1) = ((q + 9 : Nat) : Int) := by rw [IntWalk.i64_in _ (by omega)]; omega
      have w9_ : IntKind.i64.wrap (((q + 9 : Nat) : Int) + 1) = ((q + 10 : Nat) : Int) := by rw [IntWalk.i64_in _ (by omega)]; omega
      have m7_ : ((q + 7 : Nat) : Int).tmod 3 = ((q + 7 : Nat) : Int) % 3 := Int.tmod_eq_emod_of_nonneg (by omega)
      generalize e1_ : q + 1 = q1 at *
      generalize e2_ : q + 2 = q2 at *
      generalize e3_ : q + 3 = q3 at *
      generalize e4_ : q + 4 = q4 at *
      generalize e5_ : q + 5 = q5 at *
      generalize e6_ : q + 6 = q6 at *
      generalize e7_ : q + 7 = q7 at *
      generalize e8_ : q + 8 = q8 at *
      generalize e9_ : q + 9 = q9 at *
      generalize e10_ : q + 10 = q10 at *
      obtain ⟨B7, eB7⟩ : ∃ B, (((q7 : Nat) : Int) % 3 == 0) = B := ⟨_, rfl⟩
      have HB7_ := Lib.hid eB7
      obtain ⟨p0, ep0⟩ : ∃ p, o + m * 10 = p := ⟨_, rfl⟩
      have HP := Lib.hid ep0
      obtain ⟨r1, er1⟩ : ∃ r, setAll row (p0) [.int .i64 (q : Int)] = r := ⟨_, rfl⟩
      have sr1 : r1.size = row.size := by rw [← er1, setAll_size]
      obtain ⟨r2, er2⟩ : ∃ r, setAll r1 (p0 + 1) [.int .i64 (q1 : Int)] = r := ⟨_, rfl⟩
      have sr2 : r2.size = row.size := by rw [← er2, setAll_size, sr1]
      obtain ⟨r3, er3⟩ : ∃ r, setAll r2 (p0 + 2) [.int .i64 (q2 : Int)] = r := ⟨_, rfl⟩
      have sr3 : r3.size = row.size := by rw [← er3, setAll_size, sr2]
      obtain ⟨r4, er4⟩ : ∃ r, setAll r3 (p0 + 3) [.int .i64 (q3 : Int)] = r := ⟨_, rfl⟩
      have sr4 : r4.size = row.size := by rw [← er4, setAll_size, sr3]
      obtain ⟨r5, er5⟩ : ∃ r, setAll r4 (p0 + 4) [.int .i64 (q4 : Int)] = r := ⟨_, rfl⟩
      have sr5 : r5.size = row.size := by rw [← er5, setAll_size, sr4]
      obtain ⟨r6, er6⟩ : ∃ r, setAll r5 (p0 + 5) [.int .i64 (q5 : Int)] = r := ⟨_, rfl⟩
      have sr6 : r6.size = row.size := by rw [← er6, setAll_size, sr5]
      obtain ⟨r7, er7⟩ : ∃ r, setAll r6 (p0 + 6) [.int .i64 (q6 : Int)] = r := ⟨_, rfl⟩
      have sr7 : r7.size = row.size := by rw [← er7, setAll_size, sr6]
      obtain ⟨r8, er8⟩ : ∃ r, setAll r7 (p0 + 7) [.bool B7] = r := ⟨_, rfl⟩
      have sr8 : r8.size = row.size := by rw [← er8, setAll_size, sr7]
      obtain ⟨r9, er9⟩ : ∃ r, setAll r8 (p0 + 8) [.int .i64 (q8 : Int)] = r := ⟨_, rfl⟩
      have sr9 : r9.size = row.size := by rw [← er9, setAll_size, sr8]
      obtain ⟨r10, er10⟩ : ∃ r, setAll r9 (p0 + 9) [.int .i64 (q9 : Int)] = r := ⟨_, rfl⟩
      have sr10 : r10.size = row.size := by rw [← er10, setAll_size, sr9]
      have HER := Lib.hid (And.intro er1 (And.intro er2 (And.intro er3 (And.intro er4 (And.intro er5 (And.intro er6 (And.intro er7 (And.intro er8 (And.intro er9 er10)))))))))
      rw [ep0] at hroom
      have k0 : Nat.ble (p0 + 1) row.size = true := Nat.ble_eq_true_of_le (by omega)
      have k1 : Nat.ble (p0 + 1 + 1) r1.size = true := Nat.ble_eq_true_of_le (by omega)
      have k2 : Nat.ble (p0 + 2 + 1) r2.size = true := Nat.ble_eq_true_of_le (by omega)
      have k3 : Nat.ble (p0 + 3 + 1) r3.size = true := Nat.ble_eq_true_of_le (by omega)
      have k4 : Nat.ble (p0 + 4 + 1) r4.size = true := Nat.ble_eq_true_of_le (by omega)
      have k5 : Nat.ble (p0 + 5 + 1) r5.size = true := Nat.ble_eq_true_of_le (by omega)
      have k6 : Nat.ble (p0 + 6 + 1) r6.size = true := Nat.ble_eq_true_of_le (by omega)
      have k7 : Nat.ble (p0 + 7 + 1) r7.size = true := Nat.ble_eq_true_of_le (by omega)
      have k8 : Nat.ble (p0 + 8 + 1) r8.size = true := Nat.ble_eq_true_of_le (by omega)
      have k9 : Nat.ble (p0 + 9 + 1) r9.size = true := Nat.ble_eq_true_of_le (by omega)
      have HE := Lib.hid (And.intro e1_ (And.intro e2_ (And.intro e3_ (And.intro e4_ (And.intro e5_ (And.intro e6_ (And.intro e7_ (And.intro e8_ (And.intro e9_ e10_)))))))))
      clear er1 er2 er3 er4 er5 er6 er7 er8 er9 er10 e1_ e2_ e3_ e4_ e5_ e6_ e7_ e8_ e9_ e10_ hrs hk hroom hq sr1 sr2 sr3 sr4 sr5 sr6 sr7 sr8 sr9
      clear ep0
      go_wp2_with (first
        | (refine wpList_put_at rfl 2 (.tmp 17) (.tmp 14) rfl rfl b (o + m * 10) rfl (.int .i64 (q : Int)) rfl #[.int .i64 (q : Int)] rfl 162 row r1 HA.out (by kernel_rfl) (by rw [HP.out]; exact k0) rfl (by rw [HP.out]; exact HER.out.1) ?_; intro x1 g0 o0; have HA1 := Lib.hid g0; have HB1 := Lib.hid (HB.out.trans (o0.widen hlo hhi)); clear g0 o0)
        | (refine wpList_put_at rfl 2 (.tmp 25) (.tmp 22) rfl rfl b (o + m * 10 + 1) rfl (.int .i64 (q1 : Int)) rfl #[.int .i64 (q1 : Int)] rfl 162 r1 r2 HA1.out (by kernel_rfl) (by rw [HP.out]; exact k1) rfl (by rw [HP.out]; exact HER.out.2.1) ?_; intro x2 g1 o1; have HA2 := Lib.hid g1; have HB2 := Lib.hid (HB1.out.trans (o1.widen hlo hhi)); clear g1 o1)
        | (refine wpList_put_at rfl 2 (.tmp 33) (.tmp 30) rfl rfl b (o + m * 10 + 2) rfl (.int .i64 (q2 : Int)) rfl #[.int .i64 (q2 : Int)] rfl 162 r2 r3 HA2.out (by kernel_rfl) (by rw [HP.out]; exact k2) rfl (by rw [HP.out]; exact HER.out.2.2.1) ?_; intro x3 g2 o2; have HA3 := Lib.hid g2; have HB3 := Lib.hid (HB2.out.trans (o2.widen hlo hhi)); clear g2 o2)
        | (refine wpList_put_at rfl 2 (.tmp 41) (.tmp 38) rfl rfl b (o + m * 10 + 3) rfl (.int .i64 (q3 : Int)) rfl #[.int .i64 (q3 : Int)] rfl 162 r3 r4 HA3.out (by kernel_rfl) (by rw [HP.out]; exact k3) rfl (by rw [HP.out]; exact HER.out.2.2.2.1) ?_; intro x4 g3 o3; have HA4 := Lib.hid g3; have HB4 := Lib.hid (HB3.out.trans (o3.widen hlo hhi)); clear g3 o3)
        | (refine wpList_put_at rfl 2 (.tmp 49) (.tmp 46) rfl rfl b (o + m * 10 + 4) rfl (.int .i64 (q4 : Int)) rfl #[.int .i64 (q4 : Int)] rfl 162 r4 r5 HA4.out (by kernel_rfl) (by rw [HP.out]; exact k4) rfl (by rw [HP.out]; exact HER.out.2.2.2.2.1) ?_; intro x5 g4 o4; have HA5 := Lib.hid g4; have HB5 := Lib.hid (HB4.out.trans (o4.widen hlo hhi)); clear g4 o4)
        | (refine wpList_put_at rfl 2 (.tmp 57) (.tmp 54) rfl rfl b (o + m * 10 + 5) rfl (.int .i64 (q5 : Int)) rfl #[.int .i64 (q5 : Int)] rfl 162 r5 r6 HA5.out (by kernel_rfl) (by rw [HP.out]; exact k5) rfl (by rw [HP.out]; exact HER.out.2.2.2.2.2.1) ?_; intro x6 g5 o5; have HA6 := Lib.hid g5; have HB6 := Lib.hid (HB5.out.trans (o5.widen hlo hhi)); clear g5 o5)
        | (refine wpList_put_at rfl 2 (.tmp 65) (.tmp 62) rfl rfl b (o + m * 10 + 6) rfl (.int .i64 (q6 : Int)) rfl #[.int .i64 (q6 : Int)] rfl 162 r6 r7 HA6.out (by kernel_rfl) (by rw [HP.out]; exact k6) rfl (by rw [HP.out]; exact HER.out.2.2.2.2.2.2.1) ?_; intro x7 g6 o6; have HA7 := Lib.hid g6; have HB7 := Lib.hid (HB6.out.trans (o6.widen hlo hhi)); clear g6 o6)
        | (refine wpList_put_at rfl 4 (.tmp 75) (.tmp 72) rfl rfl b (o + m * 10 + 7) rfl (.bool B7) rfl #[.bool B7] rfl 162 r7 r8 HA7.out (by kernel_rfl) (by rw [HP.out]; exact k7) rfl (by rw [HP.out]; exact HER.out.2.2.2.2.2.2.2.1) ?_; intro x8 g7 o7; have HA8 := Lib.hid g7; have HB8 := Lib.hid (HB7.out.trans (o7.widen hlo hhi)); clear g7 o7)
        | (refine wpList_put_at rfl 2 (.tmp 82) (.tmp 80) rfl rfl b (o + m * 10 + 8) rfl (.int .i64 (q8 : Int)) rfl #[.int .i64 (q8 : Int)] rfl 162 r8 r9 HA8.out (by kernel_rfl) (by rw [HP.out]; exact k8) rfl (by rw [HP.out]; exact HER.out.2.2.2.2.2.2.2.2.1) ?_; intro x9 g8 o8; have HA9 := Lib.hid g8; have HB9 := Lib.hid (HB8.out.trans (o8.widen hlo hhi)); clear g8 o8)
        | (refine wpList_put_at rfl 2 (.tmp 89) (.tmp 87) rfl rfl b (o + m * 10 + 9) rfl (.int .i64 (q9 : Int)) rfl #[.int .i64 (q9 : Int)] rfl 162 r9 r10 HA9.out (by kernel_rfl) (by rw [HP.out]; exact k9) rfl (by rw [HP.out]; exact HER.out.2.2.2.2.2.2.2.2.2) ?_; intro x10 g9 o9; have HA10 := Lib.hid g9; have HB10 := Lib.hid (HB9.out.trans (o9.widen hlo hhi)); clear g9 o9))
      go_roundw
      case rel =>
        refine ⟨m + 1, r10, by go_num, by rw [HK.out], by omega, HB10.out, HA10.out, by rw [sr10]; exact HRS.out, fun j hj c v hv => ?_⟩
        obtain ⟨E1, E2, E3, E4, E5, E6, E7, E8, E9, E10⟩ := HER.out
        obtain ⟨F1, F2, F3, F4, F5, F6, F7, F8, F9, F10⟩ := HE.out
        have hp := HP.out
        have hrs2 := HRS.out
        have hc7 : c < 10 := by
          have := (List.getElem?_eq_some_iff.1 hv).1
          rwa [dvL_len] at this
        rcases Nat.lt_or_ge j m with h | h
        · have hlt : o + j * 10 + c < p0 := by omega
          rw [← E10, setAll_off _ _ _ _ (.inl (by omega)), ← E9, setAll_off _ _ _ _ (.inl (by omega)), ← E8, setAll_off _ _ _ _ (.inl (by omega)), ← E7, setAll_off _ _ _ _ (.inl (by omega)), ← E6, setAll_off _ _ _ _ (.inl (by omega)), ← E5, setAll_off _ _ _ _ (.inl (by omega)), ← E4, setAll_off _ _ _ _ (.inl (by omega)), ← E3, setAll_off _ _ _ _ (.inl (by omega)), ← E2, setAll_off _ _ _ _ (.inl (by omega)), ← E1, setAll_off _ _ _ _ (.inl (by omega))]
          exact HD.out j h c v hv
        · obtain rfl : j = m := by omega
          rw [HQ.out] at hv
          unfold markDv dvL at hv
          dsimp only at hv
          rw [F1, F2, F3, F4, F5, F6, F7, F8, F9, HB7_.out] at hv
          rw [hp]
          have z : ∀ (rr : Array Value) (p : Nat) (u : Value), p < rr.size → (setAll rr p [u])[p]? = some u := fun rr p u hp => by
            have := setAll_at [u] rr p 0 u (by show p + 1 ≤ _; omega) rfl
            simpa using this
          have y : ∀ (rr : Array Value) (p p' : Nat) (u : Value), p' < p → (setAll rr p [u])[p']? = rr[p']? := fun rr p p' u hp => setAll_off _ _ _ _ (.inl hp)
          rcases c with _ | _ | _ | _ | _ | _ | _ | _ | _ | _ | c
          · simp at hv
            subst hv
            rw [← E10, y _ _ _ _ (by omega), ← E9, y _ _ _ _ (by omega), ← E8, y _ _ _ _ (by omega), ← E7, y _ _ _ _ (by omega), ← E6, y _ _ _ _ (by omega), ← E5, y _ _ _ _ (by omega), ← E4, y _ _ _ _ (by omega), ← E3, y _ _ _ _ (by omega), ← E2, y _ _ _ _ (by omega), ← E1]
            exact z _ _ _ (by have a0 := congrArg Array.size E1; have a1 := congrArg Array.size E2; have a2 := congrArg Array.size E3; have a3 := congrArg Array.size E4; have a4 := congrArg Array.size E5; have a5 := congrArg Array.size E6; have a6 := congrArg Array.size E7; have a7 := congrArg Array.size E8; have a8 := congrArg Array.size E9; have a9 := congrArg Array.size E10; rw [setAll_size] at a0 a1 a2 a3 a4 a5 a6 a7 a8 a9; omega)
          · simp at hv
            subst hv
            rw [← E10, y _ _ _ _ (by omega), ← E9, y _ _ _ _ (by omega), ← E8, y _ _ _ _ (by omega), ← E7, y _ _ _ _ (by omega), ← E6, y _ _ _ _ (by omega), ← E5, y _ _ _ _ (by omega), ← E4, y _ _ _ _ (by omega), ← E3, y _ _ _ _ (by omega), ← E2]
            exact z _ _ _ (by have a0 := congrArg Array.size E1; have a1 := congrArg Array.size E2; have a2 := congrArg Array.size E3; have a3 := congrArg Array.size E4; have a4 := congrArg Array.size E5; have a5 := congrArg Array.size E6; have a6 := congrArg Array.size E7; have a7 := congrArg Array.size E8; have a8 := congrArg Array.size E9; have a9 := congrArg Array.size E10; rw [setAll_size] at a0 a1 a2 a3 a4 a5 a6 a7 a8 a9; omega)
          · simp at hv
            subst hv
            rw [← E10, y _ _ _ _ (by omega), ← E9, y _ _ _ _ (by omega), ← E8, y _ _ _ _ (by omega), ← E7, y _ _ _ _ (by omega), ← E6, y _ _ _ _ (by omega), ← E5, y _ _ _ _ (by omega), ← E4, y _ _ _ _ (by omega), ← E3]
            exact z _ _ _ (by have a0 := congrArg Array.size E1; have a1 := congrArg Array.size E2; have a2 := congrArg Array.size E3; have a3 := congrArg Array.size E4; have a4 := congrArg Array.size E5; have a5 := congrArg Array.size E6; have a6 := congrArg Array.size E7; have a7 := congrArg Array.size E8; have a8 := congrArg Array.size E9; have a9 := congrArg Array.size E10; rw [setAll_size] at a0 a1 a2 a3 a4 a5 a6 a7 a8 a9; omega)
          · simp at hv
            subst hv
            rw [← E10, y _ _ _ _ (by omega), ← E9, y _ _ _ _ (by omega), ← E8, y _ _ _ _ (by omega), ← E7, y _ _ _ _ (by omega), ← E6, y _ _ _ _ (by omega), ← E5, y _ _ _ _ (by omega), ← E4]
            exact z _ _ _ (by have a0 := congrArg Array.size E1; have a1 := congrArg Array.size E2; have a2 := congrArg Array.size E3; have a3 := congrArg Array.size E4; have a4 := congrArg Array.size E5; have a5 := congrArg Array.size E6; have a6 := congrArg Array.size E7; have a7 := congrArg Array.size E8; have a8 := congrArg Array.size E9; have a9 := congrArg Array.size E10; rw [setAll_size] at a0 a1 a2 a3 a4 a5 a6 a7 a8 a9; omega)
          · simp at hv
            subst hv
            rw [← E10, y _ _ _ _ (by omega), ← E9, y _ _ _ _ (by omega), ← E8, y _ _ _ _ (by omega), ← E7, y _ _ _ _ (by omega), ← E6, y _ _ _ _ (by omega), ← E5]
            exact z _ _ _ (by have a0 := congrArg Array.size E1; have a1 := congrArg Array.size E2; have a2 := congrArg Array.size E3; have a3 := congrArg Array.size E4; have a4 := congrArg Array.size E5; have a5 := congrArg Array.size E6; have a6 := congrArg Array.size E7; have a7 := congrArg Array.size E8; have a8 := congrArg Array.size E9; have a9 := congrArg Array.size E10; rw [setAll_size] at a0 a1 a2 a3 a4 a5 a6 a7 a8 a9; omega)
          · simp at hv
            subst hv
            rw [← E10, y _ _ _ _ (by omega), ← E9, y _ _ _ _ (by omega), ← E8, y _ _ _ _ (by omega), ← E7, y _ _ _ _ (by omega), ← E6]
            exact z _ _ _ (by have a0 := congrArg Array.size E1; have a1 := congrArg Array.size E2; have a2 := congrArg Array.size E3; have a3 := congrArg Array.size E4; have a4 := congrArg Array.size E5; have a5 := congrArg Array.size E6; have a6 := congrArg Array.size E7; have a7 := congrArg Array.size E8; have a8 := congrArg Array.size E9; have a9 := congrArg Array.size E10; rw [setAll_size] at a0 a1 a2 a3 a4 a5 a6 a7 a8 a9; omega)
          · simp at hv
            subst hv
            rw [← E10, y _ _ _ _ (by omega), ← E9, y _ _ _ _ (by omega), ← E8, y _ _ _ _ (by omega), ← E7]
            exact z _ _ _ (by have a0 := congrArg Array.size E1; have a1 := congrArg Array.size E2; have a2 := congrArg Array.size E3; have a3 := congrArg Array.size E4; have a4 := congrArg Array.size E5; have a5 := congrArg Array.size E6; have a6 := congrArg Array.size E7; have a7 := congrArg Array.size E8; have a8 := congrArg Array.size E9; have a9 := congrArg Array.size E10; rw [setAll_size] at a0 a1 a2 a3 a4 a5 a6 a7 a8 a9; omega)
          · simp at hv
            subst hv
            rw [← E10, y _ _ _ _ (by omega), ← E9, y _ _ _ _ (by omega), ← E8]
            exact z _ _ _ (by have a0 := congrArg Array.size E1; have a1 := congrArg Array.size E2; have a2 := congrArg Array.size E3; have a3 := congrArg Array.size E4; have a4 := congrArg Array.size E5; have a5 := congrArg Array.size E6; have a6 := congrArg Array.size E7; have a7 := congrArg Array.size E8; have a8 := congrArg Array.size E9; have a9 := congrArg Array.size E10; rw [setAll_size] at a0 a1 a2 a3 a4 a5 a6 a7 a8 a9; omega)
          · simp at hv
            subst hv
            rw [← E10, y _ _ _ _ (by omega), ← E9]
            exact z _ _ _ (by have a0 := congrArg Array.size E1; have a1 := congrArg Array.size E2; have a2 := congrArg Array.size E3; have a3 := congrArg Array.size E4; have a4 := congrArg Array.size E5; have a5 := congrArg Array.size E6; have a6 := congrArg Array.size E7; have a7 := congrArg Array.size E8; have a8 := congrArg Array.size E9; have a9 := congrArg Array.size E10; rw [setAll_size] at a0 a1 a2 a3 a4 a5 a6 a7 a8 a9; omega)
          · simp at hv
            subst hv
            rw [← E10]
            exact z _ _ _ (by have a0 := congrArg Array.size E1; have a1 := congrArg Array.size E2; have a2 := congrArg Array.size E3; have a3 := congrArg Array.size E4; have a4 := congrArg Array.size E5; have a5 := congrArg Array.size E6; have a6 := congrArg Array.size E7; have a7 := congrArg Array.size E8; have a8 := congrArg Array.size E9; have a9 := congrArg Array.size E10; rw [setAll_size] at a0 a1 a2 a3 a4 a5 a6 a7 a8 a9; omega)
          · omega
      case measure => simp [intOf]; omega
    · have hge : N ≤ m := by omega
      go_wp2_with fail
      go_ret
      refine ⟨by rw [show N = m by omega]; rfl, .inr ⟨b, o, row, rfl, hlo, hhi, HA.out, by rw [marksDv_length]; exact HRS.out, fun i x hx c v hv => ?_⟩, HB.out⟩
      obtain ⟨hi', rfl⟩ := marksDv_at hx
      exact HD.out i (by omega) c v hv
set_option maxRecDepth 100000 in
set_option maxHeartbeats 8000000 in
theorem heldDeviceS_any {lo hi : Nat} (a : Option Addr) (cap : Nat) (N : Nat) (k : Nat) (w : World) (h : RsNew dvL 10 162 lo hi w a (marksDv k N)) (hk0 : 0 < k) (hk : k + 10 * N ≤ 30000000) :
    Calls Tryz.prog 119 #[.slice a N cap, .int .i64 (k : Int)] w fun e w' => e = .returned (.int .i64 ((k + 10 * N : Nat) : Int)) ∧ Below w.heap.size w w' := by
  have HI := Lib.hid h
  have hN8 : N ≤ 30000000 := by omega
  clear h
  go_enter Tryz.func119, Tryz.ntmps119
  go_wp2_with fail
  go_loopw [1, 5] (fun u i wr => ∃ m : Nat, i = .int .i64 (m : Int) ∧ u = .int .i64 ((k + 10 * m : Nat) : Int) ∧ m ≤ N ∧ Below w.heap.size w wr) (fun _ i _ => N - (intOf i).toNat)
  case atStart => exact ⟨0, rfl, rfl, by omega, Below.refl _ _⟩
  case round =>
    obtain ⟨m, rfl, rfl, hm, hb⟩ := hrel
    by_cases hmn : m < N
    · obtain ⟨b, o, row, rfl, _, _, hg, _, hc⟩ : ∃ b o row, a = some ⟨b, o, none⟩ ∧ lo ≤ b ∧ b < hi ∧ w.heap[b]? = some (.cells row 162 (0, 0)) ∧ o + (marksDv k N).length * 10 ≤ row.size ∧ ∀ (i : Nat) x, (marksDv k N)[i]? = some x → ∀ (j : Nat) v, (dvL x)[j]? = some v → row[o + i * 10 + j]? = some v := by
        rcases HI.out with h | h
        · have := marksDv_length k N
          rw [h] at this
          simp at this
          omega
        · exact h
      have hx := hc m _ (marksDv_get hmn)
      have hgw := (hb.block b (Array.getElem?_eq_some_iff.1 hg).1).trans hg
      have HG := Lib.hid hgw
      have hi1 : (0 : Int) ≤ (m : Int) := by omega
      have hi2 : (m : Int) < (N : Int) := by omega
      have HK := Lib.hid (show k + 10 * (m + 1) = k + 10 * m + 10 by omega)
      have hq : k + 10 * m + 10 ≤ 30000000 := by omega
      obtain ⟨q, eq⟩ : ∃ q, k + 10 * m = q := ⟨_, rfl⟩
      have hq0 : 0 < q := by omega
      rw [eq] at hq HK hx ⊢
      unfold markDv dvL at hx
      dsimp only at hx
      have c0 := hx 0 _ rfl
      have c1 := hx 1 _ rfl
      have c2 := hx 2 _ rfl
      have c3 := hx 3 _ rfl
      have c4 := hx 4 _ rfl
      have c5 := hx 5 _ rfl
      have c6 := hx 6 _ rfl
      have c7 := hx 7 _ rfl
      have c8 := hx 8 _ rfl
      have c9 := hx 9 _ rfl
      have w0_ : IntKind.i64.wrap (((q : Nat) : Int) + 1) = ((q + 1 : Nat) : Int) := by rw [IntWalk.i64_in _ (by omega)]; omega
      have w1_ : IntKind.i64.wrap (((q + 1 : Nat) : Int) + 1) = ((q + 2 : Nat) : Int) := by rw [IntWalk.i64_in _ (by omega)]; omega
      have w2_ : IntKind.i64.wrap (((q + 2 : Nat) : Int) + 1) = ((q + 3 : Nat) : Int) := by rw [IntWalk.i64_in _ (by omega)]; omega
      have w3_ : IntKind.i64.wrap (((q + 3 : Nat) : Int) + 1) = ((q + 4 : Nat) : Int) := by rw [IntWalk.i64_in _ (by omega)]; omega
      have w4_ : IntKind.i64.wrap (((q + 4 : Nat) : Int) + 1) = ((q + 5 : Nat) : Int) := by rw [IntWalk.i64_in _ (by omega)]; omega
      have w5_ : IntKind.i64.wrap (((q + 5 : Nat) : Int) + 1) = ((q + 6 : Nat) : Int) := by rw [IntWalk.i64_in _ (by omega)]; omega
      have w6_ : IntKind.i64.wrap (((q + 6 : Nat) : Int) + 1) = ((q + 7 : Nat) : Int) := by rw [IntWalk.i64_in _ (by omega)]; omega
      have w7_ : IntKind.i64.wrap (((q + 7 : Nat) : Int) + 1) = ((q + 8 : Nat) : Int) := by rw [IntWalk.i64_in _ (by omega)]; omega
      have w8_ : IntKind.i64.wrap (((q + 8 : Nat) : Int) + 1) = ((q + 9 : Nat) : Int) := by rw [IntWalk.i64_in _ (by omega)]; omega
      have w9_ : IntKind.i64.wrap (((q + 9 : Nat) : Int) + 1) = ((q + 10 : Nat) : Int) := by rw [IntWalk.i64_in _ (by omega)]; omega
      have m7_ : ((q + 7 : Nat) : Int).tmod 3 = ((q + 7 : Nat) : Int) % 3 := Int.tmod_eq_emod_of_nonneg (by omega)
      clear hx hc hg hgw hk hq hq0 eq
      rw [Nat.add_zero] at c0
      generalize q + 1 = q1 at *
      generalize q + 2 = q2 at *
      generalize q + 3 = q3 at *
      generalize q + 4 = q4 at *
      generalize q + 5 = q5 at *
      generalize q + 6 = q6 at *
      generalize q + 7 = q7 at *
      generalize q + 8 = q8 at *
      generalize q + 9 = q9 at *
      generalize q + 10 = q10 at *
      obtain ⟨B7, eB7⟩ : ∃ B, (((q7 : Nat) : Int) % 3 == 0) = B := ⟨_, rfl⟩
      rw [eB7] at c7
      have n0 : ((q : Int) != (q : Int)) = false := by simp
      have n1 : ((q1 : Int) != (q1 : Int)) = false := by simp
      have n2 : ((q2 : Int) != (q2 : Int)) = false := by simp
      have n3 : ((q3 : Int) != (q3 : Int)) = false := by simp
      have n4 : ((q4 : Int) != (q4 : Int)) = false := by simp
      have n5 : ((q5 : Int) != (q5 : Int)) = false := by simp
      have n6 : ((q6 : Int) != (q6 : Int)) = false := by simp
      have n7 : (B7 != B7) = false := by simp
      have n8 : ((q8 : Int) != (q8 : Int)) = false := by simp
      have n9 : ((q9 : Int) != (q9 : Int)) = false := by simp
      go_wp2_with (first
        | (refine wpList_load_one rfl 2 (.tmp 16) rfl b (o + m * 10) rfl 162 row (0, 0) HG.out _ c0 _ Tryz.underlying2 rfl (by kernel_rfl) ?_)
        | (refine wpList_load_one rfl 2 (.tmp 26) rfl b (o + m * 10 + 1) rfl 162 row (0, 0) HG.out _ c1 _ Tryz.underlying2 rfl (by kernel_rfl) ?_)
        | (refine wpList_load_one rfl 2 (.tmp 36) rfl b (o + m * 10 + 2) rfl 162 row (0, 0) HG.out _ c2 _ Tryz.underlying2 rfl (by kernel_rfl) ?_)
        | (refine wpList_load_one rfl 2 (.tmp 46) rfl b (o + m * 10 + 3) rfl 162 row (0, 0) HG.out _ c3 _ Tryz.underlying2 rfl (by kernel_rfl) ?_)
        | (refine wpList_load_one rfl 2 (.tmp 56) rfl b (o + m * 10 + 4) rfl 162 row (0, 0) HG.out _ c4 _ Tryz.underlying2 rfl (by kernel_rfl) ?_)
        | (refine wpList_load_one rfl 2 (.tmp 66) rfl b (o + m * 10 + 5) rfl 162 row (0, 0) HG.out _ c5 _ Tryz.underlying2 rfl (by kernel_rfl) ?_)
        | (refine wpList_load_one rfl 2 (.tmp 76) rfl b (o + m * 10 + 6) rfl 162 row (0, 0) HG.out _ c6 _ Tryz.underlying2 rfl (by kernel_rfl) ?_)
        | (refine wpList_load_one rfl 4 (.tmp 86) rfl b (o + m * 10 + 7) rfl 162 row (0, 0) HG.out _ c7 _ Tryz.underlying4 rfl (by kernel_rfl) ?_)
        | (refine wpList_load_one rfl 2 (.tmp 97) rfl b (o + m * 10 + 8) rfl 162 row (0, 0) HG.out _ c8 _ Tryz.underlying2 rfl (by kernel_rfl) ?_)
        | (refine wpList_load_one rfl 2 (.tmp 106) rfl b (o + m * 10 + 9) rfl 162 row (0, 0) HG.out _ c9 _ Tryz.underlying2 rfl (by kernel_rfl) ?_))
      go_roundw
      case rel => exact ⟨m + 1, by go_num, by rw [HK.out], by omega, hb⟩
      case measure => simp [intOf]; omega
    · have hge : N ≤ m := by omega
      go_wp2_with fail
      go_ret
      exact ⟨by rw [show N = m by omega]; rfl, hb⟩
end Go.Proofs.YtioldepgoodipaaGreat
