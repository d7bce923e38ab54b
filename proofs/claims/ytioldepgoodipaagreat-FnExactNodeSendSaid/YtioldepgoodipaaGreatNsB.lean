/- Several texts in one, each with its own head: what is proved, and of what, stands there. -/
import Derived.Test.YtioldepgoodipaaGreatNsA
import Derived.Laws.IdiomStrings
import Derived.BigQuiet
import Derived.Deep.DeepCutAuto
import Derived.Deep.RegionHeld3
import Derived.Deep.CutRange
import Derived.Handy
import Derived.Laws.StructEq
namespace Go.Proofs.YtioldepgoodipaaGreat
open Go.RowKit
set_option linter.unusedVariables false

abbrev qB0 (p0 : Int) (p1 : Int) (p2 : Int) (p3 : Int) (p4 : Int) (p5 : Int) (p6 : Int) (p7 : Bool) (p8 : Int) (p9 : Int) : Array Value := #[.int .i64 p0, .int .i64 p1, .int .i64 p2, .int .i64 p3, .int .i64 p4, .int .i64 p5, .int .i64 p6, .bool p7, .int .i64 p8, .int .i64 p9]
abbrev qB1 : Array Value := #[.int .i64 0, .int .i64 0, .int .i64 0, .int .i64 0, .int .i64 0, .int .i64 0, .int .i64 0, .bool false, .int .i64 0, .int .i64 0]
abbrev qB2 (p0 : Int) (p1 : Int) (p2 : Int) (p3 : Int) (p4 : Int) (p5 : Int) (p6 : Int) (p7 : Bool) : Array Value := #[.int .i64 p0, .int .i64 p1, .int .i64 p2, .int .i64 p3, .int .i64 p4, .int .i64 p5, .int .i64 p6, .bool p7, .int .i64 0, .int .i64 0]
abbrev qB3 (p0 : Int) (p1 : Int) (p2 : Int) (p3 : Int) (p4 : Int) (p5 : Int) (p6 : Int) (p7 : Bool) (p8 : Int) : Array Value := #[.int .i64 p0, .int .i64 p1, .int .i64 p2, .int .i64 p3, .int .i64 p4, .int .i64 p5, .int .i64 p6, .bool p7, .int .i64 p8, .int .i64 0]
abbrev qB4 (p0 : Int) (p1 : Int) (p2 : Int) (p3 : Int) (p4 : Int) (p5 : Int) (p6 : Int) (p7 : Bool) (p8 : Int) (p9 : Int) (p10 : Int) (p11 : Option Addr) (p12 : Nat) (p13 : Nat) : Array Value := #[.int .i64 p0, .int .i64 p1, .int .i64 p2, .int .i64 p3, .int .i64 p4, .int .i64 p5, .int .i64 p6, .bool p7, .int .i64 p8, .int .i64 p9, .int .i64 p10, .slice p11 p12 p13]
abbrev qB5 : Array Value := #[.int .i64 0, .int .i64 0, .int .i64 0, .int .i64 0, .int .i64 0, .int .i64 0, .int .i64 0, .bool false, .int .i64 0, .int .i64 0, .int .i64 0, .slice none 0 0]
abbrev qB6 (p0 : Int) (p1 : Int) (p2 : Int) (p3 : Int) (p4 : Int) (p5 : Int) (p6 : Int) (p7 : Bool) : Array Value := #[.int .i64 p0, .int .i64 p1, .int .i64 p2, .int .i64 p3, .int .i64 p4, .int .i64 p5, .int .i64 p6, .bool p7, .int .i64 0, .int .i64 0, .int .i64 0, .slice none 0 0]
abbrev qB7 (p0 : Int) (p1 : Int) (p2 : Int) (p3 : Int) (p4 : Int) (p5 : Int) (p6 : Int) (p7 : Bool) (p8 : Int) : Array Value := #[.int .i64 p0, .int .i64 p1, .int .i64 p2, .int .i64 p3, .int .i64 p4, .int .i64 p5, .int .i64 p6, .bool p7, .int .i64 p8, .int .i64 0, .int .i64 0, .slice none 0 0]
abbrev qB8 (p0 : Int) (p1 : Int) (p2 : Int) (p3 : Int) (p4 : Int) (p5 : Int) (p6 : Int) (p7 : Bool) (p8 : Int) (p9 : Int) : Array Value := #[.int .i64 p0, .int .i64 p1, .int .i64 p2, .int .i64 p3, .int .i64 p4, .int .i64 p5, .int .i64 p6, .bool p7, .int .i64 p8, .int .i64 p9, .int .i64 0, .slice none 0 0]
abbrev qB9 (p0 : Int) (p1 : Int) (p2 : Int) (p3 : Int) (p4 : Int) (p5 : Int) (p6 : Int) (p7 : Bool) (p8 : Int) (p9 : Int) (p10 : Int) : Array Value := #[.int .i64 p0, .int .i64 p1, .int .i64 p2, .int .i64 p3, .int .i64 p4, .int .i64 p5, .int .i64 p6, .bool p7, .int .i64 p8, .int .i64 p9, .int .i64 p10, .slice none 0 0]
theorem qBm2 {α : Type _} {a0 a1 a2 : α} {l : List α} : a2 ∈ a0 :: a1 :: a2 :: l := (.tail _ (.tail _ (.head _)))
theorem qBm1 {α : Type _} {a0 a1 : α} {l : List α} : a1 ∈ a0 :: a1 :: l := (.tail _ (.head _))
theorem qBf {α : Type _} {p : α → Prop} {a : α} {l : List α} (h : p a ∧ ∀ x ∈ l, p x) : ∀ x ∈ a :: l, p x := List.forall_mem_cons.2 h
structure Dv where
 n : Nm
 ad : Int
 g : Int
def dvL (x : Dv) : List Value := [.int .i64 x.n.u, .int .i64 x.n.m, .int .i64 x.n.i, .int .i64 x.n.f, .int .i64 x.n.c, .int .i64 x.n.s, .int .i64 x.n.y, .bool x.n.a, .int .i64 x.ad, .int .i64 x.g]
theorem dvL_len (x : Dv) : (dvL x).length = 10 := rfl
theorem dvL_one (x : Dv) : ∀ u ∈ dvL x, u.oneCell' = true := by
 intro u hu
 simp [dvL] at hu
 rcases hu with rfl | rfl | rfl | rfl | rfl | rfl | rfl | rfl | rfl | rfl <;> rfl
def dvAt (l : List Dv) (i : Nat) : Dv := l[i]?.getD ⟨⟨0, 0, 0, 0, 0, 0, 0, false⟩, 0, 0⟩
theorem dvAt_some {l : List Dv} {i : Nat} (h : i < l.length) : l[i]? = some (dvAt l i) := by
 unfold dvAt
 rw [List.getElem?_eq_getElem h]
 rfl
set_option maxRecDepth 100000 in
set_option maxHeartbeats 4000000 in
theorem toDevice_row (x : Dv) (W : World) :
  Calls Tryz.prog 96 #[.agg (dvL x).toArray] W fun e W' => e = .returned (.agg (dvL x).toArray) ∧ Below W.heap.size W W' := by
 have HN := fun W => Lib.hid (toName_any x.n W)
 obtain ⟨⟨n0, n1, n2, n3, n4, n5, n6, n7⟩, ad, g⟩ := x
 unfold dvL
 unfold nmV at HN
 dsimp only at *
 go_enter Tryz.func96, Tryz.ntmps96
 go_wp2_with (first
  | (refine wpList_box_h rfl 165 (.tmp 0) rfl #[.int .i64 n0, .int .i64 n1, .int .i64 n2, .int .i64 n3, .int .i64 n4, .int .i64 n5, .int .i64 n6, .bool n7, .int .i64 ad, .int .i64 g] rfl ?_; intro w1 R1 e1 g1 b1; have HL1 := Lib.hid (show Lg W w1 [(R1, (qB0 n0 n1 n2 n3 n4 n5 n6 n7 ad g), 165)] [] from (Lg.first W).box e1 g1 b1); clear g1 b1 e1)
  | (refine wpList_alloc_h rfl 162 rfl (.agg #[.int .i64 0, .int .i64 0, .int .i64 0, .int .i64 0, .int .i64 0, .int .i64 0, .int .i64 0, .bool false, .int .i64 0, .int .i64 0]) (by kernel_rfl) #[.int .i64 0, .int .i64 0, .int .i64 0, .int .i64 0, .int .i64 0, .int .i64 0, .int .i64 0, .bool false, .int .i64 0, .int .i64 0] rfl ?_; intro w2 R2 e2 g2 b2; have qR2_R1 : R1 < R2 := Nat.lt_of_lt_of_eq (HL1.out.lt (.head _)) e2; have HL2 := Lib.hid (show Lg W w2 [(R2, (qB1), 162), (R1, (qB0 n0 n1 n2 n3 n4 n5 n6 n7 ad g), 165)] [] from HL1.out.box e2 g2 b2); clear g2 b2 e2)
  | (refine wpList_alloc_h rfl 162 rfl (.agg #[.int .i64 0, .int .i64 0, .int .i64 0, .int .i64 0, .int .i64 0, .int .i64 0, .int .i64 0, .bool false, .int .i64 0, .int .i64 0]) (by kernel_rfl) #[.int .i64 0, .int .i64 0, .int .i64 0, .int .i64 0, .int .i64 0, .int .i64 0, .int .i64 0, .bool false, .int .i64 0, .int .i64 0] rfl ?_; intro w3 R3 e3 g3 b3; have qR3_R2 : R2 < R3 := Nat.lt_of_lt_of_eq (HL2.out.lt (.head _)) e3; have qR3_R1 : R1 < R3 := Nat.lt_of_lt_of_eq (HL2.out.lt qBm1) e3; have HL3 := Lib.hid (show Lg W w3 [(R3, (qB1), 162), (R2, (qB1), 162), (R1, (qB0 n0 n1 n2 n3 n4 n5 n6 n7 ad g), 165)] [] from HL2.out.box e3 g3 b3); clear g3 b3 e3)
  | (refine wpList_load_at rfl 23 (.tmp 4) rfl (R1) 0 rfl 165 (qB0 n0 n1 n2 n3 n4 n5 n6 n7 ad g) (0, 0) (HL3.out.get qBm2) [.int .i64 n0, .int .i64 n1, .int .i64 n2, .int .i64 n3, .int .i64 n4, .int .i64 n5, .int .i64 n6, .bool n7] rfl _ Tryz.underlying23 rfl (by kernel_rfl) ?_)
  | (go_at_call 92; refine ((HN _).out).mono ?_; rintro e w4 ⟨rfl, h⟩; have HL4 := Lib.hid (show Lg W w4 [(R3, (qB1), 162), (R2, (qB1), 162), (R1, (qB0 n0 n1 n2 n3 n4 n5 n6 n7 ad g), 165)] [] from HL3.out.kept h); clear h)
  | (refine wpList_put_at rfl 38 (.tmp 7) (.tmp 6) rfl rfl (R3) 0 rfl _ rfl #[.int .i64 n0, .int .i64 n1, .int .i64 n2, .int .i64 n3, .int .i64 n4, .int .i64 n5, .int .i64 n6, .bool n7] rfl 162 (qB1) (qB2 n0 n1 n2 n3 n4 n5 n6 n7) (HL4.out.get (.head _)) (by kernel_rfl) (by kernel_rfl) (by kernel_rfl) (by kernel_rfl) ?_; intro w5 g5 o5; have HL5 := Lib.hid (show Lg W w5 [(R3, (qB2 n0 n1 n2 n3 n4 n5 n6 n7), 162), (R2, (qB1), 162), (R1, (qB0 n0 n1 n2 n3 n4 n5 n6 n7 ad g), 165)] [] from HL4.out.put 0 rfl g5 o5 (qBf ⟨Nat.ne_of_lt qR3_R2, (qBf ⟨Nat.ne_of_lt qR3_R1, (fun _ h => nomatch h)⟩)⟩) (fun _ h => nomatch h) rfl); clear g5 o5)
  | (refine wpList_load_one rfl 2 (.tmp 8) rfl (R1) 8 rfl 165 (qB0 n0 n1 n2 n3 n4 n5 n6 n7 ad g) (0, 0) (HL5.out.get qBm2) (.int .i64 ad) rfl _ Tryz.underlying2 rfl (by kernel_rfl) ?_)
  | (refine wpList_put_at rfl 2 (.tmp 10) (.tmp 9) rfl rfl (R3) 8 rfl (.int .i64 ad) rfl #[.int .i64 ad] rfl 162 (qB2 n0 n1 n2 n3 n4 n5 n6 n7) (qB3 n0 n1 n2 n3 n4 n5 n6 n7 ad) (HL5.out.get (.head _)) (by kernel_rfl) (by kernel_rfl) (by kernel_rfl) (by kernel_rfl) ?_; intro w6 g6 o6; have HL6 := Lib.hid (show Lg W w6 [(R3, (qB3 n0 n1 n2 n3 n4 n5 n6 n7 ad), 162), (R2, (qB1), 162), (R1, (qB0 n0 n1 n2 n3 n4 n5 n6 n7 ad g), 165)] [] from HL5.out.put 0 rfl g6 o6 (qBf ⟨Nat.ne_of_lt qR3_R2, (qBf ⟨Nat.ne_of_lt qR3_R1, (fun _ h => nomatch h)⟩)⟩) (fun _ h => nomatch h) rfl); clear g6 o6)
  | (refine wpList_load_one rfl 2 (.tmp 11) rfl (R1) 9 rfl 165 (qB0 n0 n1 n2 n3 n4 n5 n6 n7 ad g) (0, 0) (HL6.out.get qBm2) (.int .i64 g) rfl _ Tryz.underlying2 rfl (by kernel_rfl) ?_)
  | (refine wpList_put_at rfl 2 (.tmp 13) (.tmp 12) rfl rfl (R3) 9 rfl (.int .i64 g) rfl #[.int .i64 g] rfl 162 (qB3 n0 n1 n2 n3 n4 n5 n6 n7 ad) (qB0 n0 n1 n2 n3 n4 n5 n6 n7 ad g) (HL6.out.get (.head _)) (by kernel_rfl) (by kernel_rfl) (by kernel_rfl) (by kernel_rfl) ?_; intro w7 g7 o7; have HL7 := Lib.hid (show Lg W w7 [(R3, (qB0 n0 n1 n2 n3 n4 n5 n6 n7 ad g), 162), (R2, (qB1), 162), (R1, (qB0 n0 n1 n2 n3 n4 n5 n6 n7 ad g), 165)] [] from HL6.out.put 0 rfl g7 o7 (qBf ⟨Nat.ne_of_lt qR3_R2, (qBf ⟨Nat.ne_of_lt qR3_R1, (fun _ h => nomatch h)⟩)⟩) (fun _ h => nomatch h) rfl); clear g7 o7)
  | (refine wpList_load_at rfl 162 (.tmp 3) rfl (R3) 0 rfl 162 (qB0 n0 n1 n2 n3 n4 n5 n6 n7 ad g) (0, 0) (HL7.out.get (.head _)) [.int .i64 n0, .int .i64 n1, .int .i64 n2, .int .i64 n3, .int .i64 n4, .int .i64 n5, .int .i64 n6, .bool n7, .int .i64 ad, .int .i64 g] rfl _ Tryz.underlying162 rfl (by kernel_rfl) ?_)
  | (refine wpList_put_at rfl 162 (.tmp 2) (.tmp 14) rfl rfl (R2) 0 rfl _ rfl #[.int .i64 n0, .int .i64 n1, .int .i64 n2, .int .i64 n3, .int .i64 n4, .int .i64 n5, .int .i64 n6, .bool n7, .int .i64 ad, .int .i64 g] rfl 162 (qB1) (qB0 n0 n1 n2 n3 n4 n5 n6 n7 ad g) (HL7.out.get qBm1) (by kernel_rfl) (by kernel_rfl) (by kernel_rfl) (by kernel_rfl) ?_; intro w8 g8 o8; have HL8 := Lib.hid (show Lg W w8 [(R3, (qB0 n0 n1 n2 n3 n4 n5 n6 n7 ad g), 162), (R2, (qB0 n0 n1 n2 n3 n4 n5 n6 n7 ad g), 162), (R1, (qB0 n0 n1 n2 n3 n4 n5 n6 n7 ad g), 165)] [] from HL7.out.put 1 rfl g8 o8 (qBf ⟨Nat.ne_of_gt qR3_R2, (qBf ⟨Nat.ne_of_lt qR2_R1, (fun _ h => nomatch h)⟩)⟩) (fun _ h => nomatch h) rfl); clear g8 o8))
 exact bodyPost_ret (results_cell_row (p := 2) (ty := 162) (by kernel_rfl) _ _ (R2) 162 _ (0, 0) _ rfl (HL8.out.get qBm1) Tryz.underlying162 rfl (by kernel_rfl)) rfl ⟨rfl, HL8.out.below⟩
theorem DeviceTo.info : (Tryz.prog.info? 162).map (fun i => (i.zero, i.size, i.bytes)) = some (some (.agg #[.int .i64 0, .int .i64 0, .int .i64 0, .int .i64 0, .int .i64 0, .int .i64 0, .int .i64 0, .bool false, .int .i64 0, .int .i64 0]), 10, 80) := by kernel_rfl
set_option maxRecDepth 100000 in
set_option maxHeartbeats 2000000 in
theorem toDeviceS_new (a : Option Addr) (cap : Nat) (l : List Dv) (w : World) (h : RsIn dvL 10 w a l) (hlen : l.length ≤ 1048576) :
  Calls Tryz.prog 42 #[.slice a l.length cap] w fun e w' => ∃ a', e = .returned (.slice a' l.length l.length) ∧ RsNew dvL 10 162 w.heap.size w'.heap.size w' a' l ∧ Below w.heap.size w w' := by
 obtain ⟨i0, hi, hz0, hz1, hz2⟩ := info_parts DeviceTo.info
 obtain ⟨N, hN⟩ : ∃ N, l.length = N := ⟨_, rfl⟩
 have HN := Lib.hid hN
 have HH := Lib.hid h
 rw [hN] at hlen ⊢
 clear hN h
 go_enter Tryz.func42, Tryz.ntmps42
 go_wp2_with (at_make; refine wpList_make_full _ rfl (.tmp 6) (.tmp 6) 45 rfl w.heap.size 162 i0 (.agg #[.int .i64 0, .int .i64 0, .int .i64 0, .int .i64 0, .int .i64 0, .int .i64 0, .int .i64 0, .bool false, .int .i64 0, .int .i64 0]) 10 Tryz.underlying45 hi hz0 hz1 .i64 .i64 (N : Int) (N : Int) N (by rfl) (by rfl) (by omega) (by omega) (by rw [hz2]; omega) (by unfold maxLen; omega) (Nat.le_refl _) ?_; intro w1 hown hgrow)
 have hb1 : Below w.heap.size w w1 := (Below.refl _ _).grown hgrow (Nat.le_refl _) (fun _ h => by cases h)
 rcases Nat.eq_zero_or_pos N with hN0 | hN0
 ·subst hN0
  have hl : l = [] := List.eq_nil_of_length_eq_zero HN.out
  clear hown hgrow
  refine wp_loop_rounds 1 ?_
  rw [rounds_succ]; go_wp2
  go_ret
  exact ⟨_, rfl, .inl (by first | exact hl | rfl), hb1⟩
 obtain ⟨row0, hg0, hs0⟩ : ∃ row0, w1.heap[w.heap.size]? = some (.cells row0 162 (0, 0)) ∧ row0.size = N * 10 := by
  rcases hown.2 with ⟨h', _⟩ | ⟨g', cap', cur, h', _, hg, _, _, hc, _⟩
  ·simp at h'
  ·simp only [Value.slice.injEq, Option.some.injEq, Addr.mk.injEq, and_true, true_and] at h'
   obtain ⟨rfl, rfl⟩ := h'
   exact ⟨cur, hg, hc⟩
 have HG0 := Lib.hid hg0
 have HS0 := Lib.hid hs0
 clear hown hgrow hg0 hs0
 obtain ⟨b, o, rfl, hlt, hc⟩ := HH.out.at (by have := HN.out; omega)
 have HI := Lib.hid hc
 clear hc HH
 go_loopw [4] (fun i wr => ∃ (k : Nat) (row : Array Value), i = .int .i64 (k : Int) ∧ k ≤ N ∧ Below w.heap.size w wr ∧ wr.heap[w.heap.size]? = some (.cells row 162 (0, 0)) ∧ row.size = N * 10 ∧
  (∀ j, j < k → ∀ c v, (dvL (dvAt l j))[c]? = some v → row[j * 10 + c]? = some v)) (fun i _ => N - (intOf i).toNat)
 case atStart => exact ⟨0, row0, rfl, by omega, hb1, HG0.out, HS0.out, fun j hj => absurd hj (by omega)⟩
 case round =>
  obtain ⟨k, row, rfl, hk, hb, hgr, hrs, hdone⟩ := hrel
  have HD := Lib.hid hdone
  have HR := Lib.hid hgr
  have HRs := Lib.hid hrs
  have hsz : w.heap.size < wr.heap.size := (Array.getElem?_eq_some_iff.1 hgr).1
  clear hdone hgr hrs
  by_cases hkn : k < N
  ·have hkl : k < l.length := by have := HN.out; omega
   have hi1 : (0 : Int) ≤ (k : Int) := by omega
   have hi2 : (k : Int) < (N : Int) := by omega
   have HCs := Lib.hid (fun j v hv => (hb.cell (p := ⟨b, _, none⟩) hlt).trans (HI.out k _ (dvAt_some hkl) j v hv))
   go_wp2_with (refine wpList_load_cells rfl 165 (.tmp 18) rfl b (o + k * 10) rfl (dvL (dvAt l k)) HCs.out _ Tryz.underlying165 rfl (by kernel_rfl) ?_)
   refine (toDevice_row _ _).mono ?_
   rintro e w2 ⟨rfl, h2⟩
   have hg2 := (h2.block _ hsz).trans HR.out
   have HG2 := Lib.hid hg2
   clear hg2
   go_wp2_with (refine wpList_put_at rfl 162 (.tmp 21) (.tmp 20) rfl rfl (w.heap.size) (k * 10) rfl (.agg (dvL (dvAt l k)).toArray) rfl (dvL (dvAt l k)).toArray rfl 162 row _ HG2.out (by kernel_rfl) (Nat.ble_eq_true_of_le (by show k * 10 + 10 ≤ row.size; rw [HRs.out]; omega)) (by rfl) rfl ?_; intro w3 g3 o3; have HG3 := Lib.hid g3; have HO3 := Lib.hid o3; clear g3 o3)
   go_roundw
   case rel =>
    refine ⟨k + 1, _, by go_num, by omega, ?_, HG3.out, by rw [setAll_size, HRs.out], fun j hj c v hv => ?_⟩
    ·exact HO3.out.below (hb.trans (h2.mono (Nat.le_of_lt hsz))) (Nat.le_refl _) (Nat.le_trans (Nat.le_of_lt hsz) h2.size)
    ·have hc7 : c < 10 := by
      have := (List.getElem?_eq_some_iff.1 hv).1
      rwa [dvL_len] at this
     rcases Nat.lt_or_ge j k with h | h
     ·rw [setAll_off _ _ _ _ (.inl (by omega))]
      exact HD.out j h c v hv
     ·obtain rfl : j = k := by omega
      exact setAll_at _ _ _ _ _ (by show j * 10 + 10 ≤ row.size; rw [HRs.out]; omega) hv
   case measure => simp [intOf]; omega
  ·have hge : N ≤ k := by omega
   go_wp2_with fail
   go_ret
   exact ⟨_, rfl, .inr ⟨w.heap.size, 0, row, rfl, Nat.le_refl _, hsz, HR.out, by rw [HRs.out, HN.out]; omega, fun i x hx c v hv => by
    have hi : i < l.length := (List.getElem?_eq_some_iff.1 hx).1
    rw [dvAt_some hi] at hx
    obtain rfl := Option.some.inj hx
    rw [Nat.zero_add]
    exact HD.out i (by have := HN.out; omega) c v hv⟩, hb⟩
set_option maxRecDepth 100000 in
set_option maxHeartbeats 4000000 in
theorem eqDevice_row (x : Dv) (W : World) :
  Calls Tryz.prog 111 #[.agg (dvL x).toArray, .agg (dvL x).toArray] W fun e W' => e = .returned (.bool true) ∧ Below W.heap.size W W' := by
 have HN := fun W => Lib.hid (eqName_same x.n W)
 obtain ⟨⟨n0, n1, n2, n3, n4, n5, n6, n7⟩, ad, g⟩ := x
 unfold dvL
 unfold nmV at HN
 dsimp only at *
 have z1 : (ad != ad) = false := by simp
 have z2 : (g != g) = false := by simp
 go_enter Tryz.func111, Tryz.ntmps111
 go_wp2_with (first
  | (refine wpList_box_h rfl 162 (.tmp 0) rfl #[.int .i64 n0, .int .i64 n1, .int .i64 n2, .int .i64 n3, .int .i64 n4, .int .i64 n5, .int .i64 n6, .bool n7, .int .i64 ad, .int .i64 g] rfl ?_; intro w1 R1 e1 g1 b1; have HL1 := Lib.hid (show Lg W w1 [(R1, (qB0 n0 n1 n2 n3 n4 n5 n6 n7 ad g), 162)] [] from (Lg.first W).box e1 g1 b1); clear g1 b1 e1)
  | (refine wpList_box_h rfl 162 (.tmp 1) rfl #[.int .i64 n0, .int .i64 n1, .int .i64 n2, .int .i64 n3, .int .i64 n4, .int .i64 n5, .int .i64 n6, .bool n7, .int .i64 ad, .int .i64 g] rfl ?_; intro w2 R2 e2 g2 b2; have qR2_R1 : R1 < R2 := Nat.lt_of_lt_of_eq (HL1.out.lt (.head _)) e2; have HL2 := Lib.hid (show Lg W w2 [(R2, (qB0 n0 n1 n2 n3 n4 n5 n6 n7 ad g), 162), (R1, (qB0 n0 n1 n2 n3 n4 n5 n6 n7 ad g), 162)] [] from HL1.out.box e2 g2 b2); clear g2 b2 e2)
  | (refine wpList_load_at rfl 38 (.tmp 5) rfl (R1) 0 rfl 162 (qB0 n0 n1 n2 n3 n4 n5 n6 n7 ad g) (0, 0) (HL2.out.get qBm1) [.int .i64 n0, .int .i64 n1, .int .i64 n2, .int .i64 n3, .int .i64 n4, .int .i64 n5, .int .i64 n6, .bool n7] rfl _ Tryz.underlying38 rfl (by kernel_rfl) ?_)
  | (refine wpList_load_at rfl 38 (.tmp 7) rfl (R2) 0 rfl 162 (qB0 n0 n1 n2 n3 n4 n5 n6 n7 ad g) (0, 0) (HL2.out.get (.head _)) [.int .i64 n0, .int .i64 n1, .int .i64 n2, .int .i64 n3, .int .i64 n4, .int .i64 n5, .int .i64 n6, .bool n7] rfl _ Tryz.underlying38 rfl (by kernel_rfl) ?_)
  | (go_at_call 107; refine ((HN _).out).mono ?_; rintro e w3 ⟨rfl, h⟩; have HL3 := Lib.hid (show Lg W w3 [(R2, (qB0 n0 n1 n2 n3 n4 n5 n6 n7 ad g), 162), (R1, (qB0 n0 n1 n2 n3 n4 n5 n6 n7 ad g), 162)] [] from HL2.out.kept h); clear h)
  | (refine wpList_load_one rfl 2 (.tmp 11) rfl (R1) 8 rfl 162 (qB0 n0 n1 n2 n3 n4 n5 n6 n7 ad g) (0, 0) (HL3.out.get qBm1) (.int .i64 ad) rfl _ Tryz.underlying2 rfl (by kernel_rfl) ?_)
  | (refine wpList_load_one rfl 2 (.tmp 13) rfl (R2) 8 rfl 162 (qB0 n0 n1 n2 n3 n4 n5 n6 n7 ad g) (0, 0) (HL3.out.get (.head _)) (.int .i64 ad) rfl _ Tryz.underlying2 rfl (by kernel_rfl) ?_)
  | (refine wpList_load_one rfl 2 (.tmp 16) rfl (R1) 9 rfl 162 (qB0 n0 n1 n2 n3 n4 n5 n6 n7 ad g) (0, 0) (HL3.out.get qBm1) (.int .i64 g) rfl _ Tryz.underlying2 rfl (by kernel_rfl) ?_)
  | (refine wpList_load_one rfl 2 (.tmp 18) rfl (R2) 9 rfl 162 (qB0 n0 n1 n2 n3 n4 n5 n6 n7 ad g) (0, 0) (HL3.out.get (.head _)) (.int .i64 g) rfl _ Tryz.underlying2 rfl (by kernel_rfl) ?_))
 go_ret
 exact ⟨rfl, HL3.out.below⟩
set_option maxRecDepth 100000 in
set_option maxHeartbeats 2000000 in
theorem eqDeviceS_same (a a' : Option Addr) (cap cap' : Nat) (l : List Dv) (w : World) (h : RsIn dvL 10 w a l) (h' : RsIn dvL 10 w a' l) (hlen : l.length ≤ 1048576) :
  Calls Tryz.prog 54 #[.slice a l.length cap, .slice a' l.length cap'] w fun e w' => e = .returned (.bool true) ∧ Below w.heap.size w w' := by
 obtain ⟨N, hN⟩ : ∃ N, l.length = N := ⟨_, rfl⟩
 have HN := Lib.hid hN
 have HI := Lib.hid h
 have HI' := Lib.hid h'
 rw [hN] at hlen ⊢
 clear hN h h'
 go_enter Tryz.func54, Tryz.ntmps54
 go_wp2_with fail
 go_loopw [5] (fun i wr => ∃ k : Nat, i = .int .i64 (k : Int) ∧ k ≤ N ∧ Below w.heap.size w wr) (fun i _ => N - (intOf i).toNat)
 case atStart => exact ⟨0, rfl, by omega, Below.refl _ _⟩
 case round =>
  obtain ⟨k, rfl, hk, hb⟩ := hrel
  by_cases hkn : k < N
  ·have hkl : k < l.length := by have := HN.out; omega
   have hi1 : (0 : Int) ≤ (k : Int) := by omega
   have hi2 : (k : Int) < (N : Int) := by omega
   obtain ⟨b, o, rfl, hlt, hc⟩ := HI.out.at (by omega)
   obtain ⟨b', o', rfl, hlt', hc'⟩ := HI'.out.at (by omega)
   have lB : b < wr.heap.size := Nat.lt_of_lt_of_le hlt hb.size
   have lB' : b' < wr.heap.size := Nat.lt_of_lt_of_le hlt' hb.size
   have HC := Lib.hid (fun j v hv => (hb.cell (p := ⟨b, _, none⟩) hlt).trans (hc k _ (dvAt_some hkl) j v hv))
   have HC' := Lib.hid (fun j v hv => (hb.cell (p := ⟨b', _, none⟩) hlt').trans (hc' k _ (dvAt_some hkl) j v hv))
   clear hc hc'
   generalize dvAt l k = x at *
   go_wp2_with fail
   refine wp_region_quiet (C := fun W => Below wr.heap.size wr W) (by kernel_rfl) (by kernel_rfl) (Below.refl _ _).drew ?_
   dsimp only
   iterate 3 (go_big_quiet_want; go_big_quiet_op; first | go_big_quiet_on | (refine ⟨_, fun _ _ => rfl, ?_⟩; go_big_quiet_on))
   go_big_quiet_want; refine ⟨.agg (dvL x).toArray, fun W hW => (quietLoadCells 162 (.tmp 19) rfl b (o + k * 10) rfl (dvL x) (grownCells lB HC.out hW) _ Tryz.underlying162 rfl (by kernel_rfl)), ?_⟩; simp only [Act.put, List.setIfInBounds_toArray, List.set_cons_zero, List.set_cons_succ]; go_big_quiet_on
   iterate 3 (go_big_quiet_want; go_big_quiet_op; first | go_big_quiet_on | (refine ⟨_, fun _ _ => rfl, ?_⟩; go_big_quiet_on))
   go_big_quiet_want; refine ⟨.agg (dvL x).toArray, fun W hW => (quietLoadCells 162 (.tmp 23) rfl b' (o' + k * 10) rfl (dvL x) (grownCells lB' HC'.out hW) _ Tryz.underlying162 rfl (by kernel_rfl)), ?_⟩; simp only [Act.put, List.setIfInBounds_toArray, List.set_cons_zero, List.set_cons_succ]; go_big_quiet_on
   go_big_quiet_want; go_big_quiet_op; refine ⟨_, fun W hW => quietCall hW (eqDevice_row x W), ?_⟩; go_big_quiet_on
   go_big_quiet_want; go_big_quiet_op; first | go_big_quiet_on | (refine ⟨_, fun _ _ => rfl, ?_⟩; go_big_quiet_on)
   refine wpQuiet_nil ?_
   intro X hX
   go_wp2_with fail
   go_roundw
   case rel => exact ⟨k + 1, by go_num, by omega, hb.trans (hX.mono hb.size)⟩
   case measure => simp [intOf]; omega
  ·go_wp2_with fail
   go_ret
   exact ⟨rfl, hb⟩
def markDv (q : Nat) : Dv := ⟨⟨((q : Nat) : Int), ((q + 1 : Nat) : Int), ((q + 2 : Nat) : Int), ((q + 3 : Nat) : Int), ((q + 4 : Nat) : Int), ((q + 5 : Nat) : Int), ((q + 6 : Nat) : Int), (((q + 7 : Nat) : Int) % 3 == 0)⟩, ((q + 8 : Nat) : Int), ((q + 9 : Nat) : Int)⟩
def marksDv (k m : Nat) : List Dv := (List.range m).map fun i => markDv (k + 10 * i)
theorem marksDv_length (k m : Nat) : (marksDv k m).length = m := by simp [marksDv]
theorem marksDv_at {k m i : Nat} {x : Dv} (h : (marksDv k m)[i]? = some x) : i < m ∧ x = markDv (k + 10 * i) := by
 unfold marksDv at h
 rw [List.getElem?_map] at h
 obtain ⟨j, hj, rfl⟩ := Option.map_eq_some_iff.1 h
 obtain ⟨hi, rfl⟩ := List.getElem?_eq_some_iff.1 hj
 have hi' : i < m := by simpa using hi
 simp [hi']
theorem marksDv_get {k m i : Nat} (h : i < m) : (marksDv k m)[i]? = some (markDv (k + 10 * i)) := by
 unfold marksDv
 rw [List.getElem?_map, List.getElem?_range h]
 rfl
set_option maxRecDepth 100000 in
set_option maxHeartbeats 8000000 in
theorem markDeviceS_any {lo hi : Nat} (a : Option Addr) (cap : Nat) (l : List Dv) (k : Nat) (w : World) (h : RsNew dvL 10 162 lo hi w a l) (hk0 : 0 < k) (hk : k + 10 * l.length ≤ 30000000) :
  Calls Tryz.prog 60 #[.slice a l.length cap, .int .i64 (k : Int)] w fun e w' => e = .returned (.int .i64 ((k + 10 * l.length : Nat) : Int)) ∧ RsNew dvL 10 162 lo hi w' a (marksDv k l.length) ∧ Out lo hi w w' := by
 obtain ⟨N, hN⟩ : ∃ N, l.length = N := ⟨_, rfl⟩
 have HN := Lib.hid hN
 rcases Nat.eq_zero_or_pos N with hN0 | hN0
 ·rw [hN]
  subst hN0
  clear hN h
  go_enter Tryz.func60, Tryz.ntmps60
  go_wp2
  refine wp_loop_rounds 1 ?_
  rw [rounds_succ]; go_wp2
  go_ret
  exact ⟨rfl, .inl (by first | rfl | (simp [marksDv])), Out.refl _ _ _⟩
 obtain ⟨b, o, row0, rfl, hlo, hhi, hg0, hs0⟩ : ∃ b o row, a = some ⟨b, o, none⟩ ∧ lo ≤ b ∧ b < hi ∧ w.heap[b]? = some (.cells row 162 (0, 0)) ∧ o + N * 10 ≤ row.size := by
  rcases h with h | ⟨b, o, row, h1, h2, h3, h4, h5, h6⟩
  ·rw [h] at hN
   simp at hN
   omega
  ·rw [hN] at h5
   exact ⟨b, o, row, h1, h2, h3, h4, h5⟩
 have HG0 := Lib.hid hg0
 have hN8 : N ≤ 30000000 := by omega
 have HS0 := Lib.hid hs0
 rw [hN] at hk ⊢
 clear hN h hg0 hs0
 go_enter Tryz.func60, Tryz.ntmps60
 go_wp2_with fail
 go_loopw [1, 5] (fun u i wr => ∃ (m : Nat) (row : Array Value), i = .int .i64 (m : Int) ∧ u = .int .i64 ((k + 10 * m : Nat) : Int) ∧ m ≤ N ∧ Out lo hi w wr ∧ wr.heap[b]? = some (.cells row 162 (0, 0)) ∧ o + N * 10 ≤ row.size ∧
  (∀ j, j < m → ∀ c v, (dvL (markDv (k + 10 * j)))[c]? = some v → row[o + j * 10 + c]? = some v)) (fun _ i _ => N - (intOf i).toNat)
 case atStart => exact ⟨0, row0, rfl, rfl, by omega, Out.refl _ _ _, HG0.out, HS0.out, fun j hj => absurd hj (by omega)⟩
 case round =>
  obtain ⟨m, row, rfl, rfl, hm, hb, hgr, hrs, hdone⟩ := hrel
  have HD := Lib.hid hdone
  have HA := Lib.hid hgr
  have HB := Lib.hid hb
  have HRS := Lib.hid hrs
  clear hdone hgr hb HG0 HS0
  by_cases hmn : m < N
  ·have hi1 : (0 : Int) ≤ (m : Int) := by omega
   have hi2 : (m : Int) < (N : Int) := by omega
   have hq : k + 10 * m + 10 ≤ 30000000 := by omega
   have hroom : o + m * 10 + 10 ≤ row.size := by omega
   have HK := Lib.hid (show k + 10 * (m + 1) = k + 10 * m + 10 by omega)
   obtain ⟨q, eq⟩ : ∃ q, k + 10 * m = q := ⟨_, rfl⟩
   have hq0 : 0 < q := by omega
   have HQ := Lib.hid eq
   rw [eq] at hq HK ⊢
   clear eq
   have w0_ : IntKind.i64.wrap (((q : Nat) : Int) + 1) = ((q + 1 : Nat) : Int) := by rw [IntWalk.i64_in _ (by omega)]; omega
   have w1_ : IntKind.i64.wrap (((q + 1 : Nat) : Int) + 1) = ((q + 2 : Nat) : Int) := by rw [IntWalk.i64_in _ (by omega)]; omega
   have w2_ : IntKind.i64.wrap (((q + 2 : Nat) : Int) + 1) = ((q + 3 : Nat) : Int) := by rw [IntWalk.i64_in _ (by omega)]; omega
   have w3_ : IntKind.i64.wrap (((q + 3 : Nat) : Int) + 1) = ((q + 4 : Nat) : Int) := by rw [IntWalk.i64_in _ (by omega)]; omega
   have w4_ : IntKind.i64.wrap (((q + 4 : Nat) : Int) + 1) = ((q + 5 : Nat) : Int) := by rw [IntWalk.i64_in _ (by omega)]; omega
   have w5_ : IntKind.i64.wrap (((q + 5 : Nat) : Int) + 1) = ((q + 6 : Nat) : Int) := by rw [IntWalk.i64_in _ (by omega)]; omega
   have w6_ : IntKind.i64.wrap (((q + 6 : Nat) : Int) + 1) = ((q + 7 : Nat) : Int) := by rw [IntWalk.i64_in _ (by omega)]; omega
   have w7_ : IntKind.i64.wrap (((q + 7 : Nat) : Int) + 1) = ((q + 8 : Nat) : Int) := by rw [IntWalk.i64_in _ (by omega)]; omega
   have w8_ : IntKind.i64.wrap (((q + 8 : Nat) : Int) + 1) = ((q + 9 : Nat) : Int) := by rw [IntWalk.i64_in _ (by omega)]; omega
   have w9_ : IntKind.i64.wrap (((q + 9 : Nat) : Int) + 1) = ((q + 10 : Nat) : Int) := by rw [IntWalk.i64_in _ (by omega)]; omega
   have m7_ : ((q + 7 : Nat) : Int).tmod 3 = ((q + 7 : Nat) : Int) % 3 := Int.tmod_eq_emod_of_nonneg (by omega)
   generalize e1_ : q + 1 = q1 at *
   generalize e2_ : q + 2 = q2 at *
   generalize e3_ : q + 3 = q3 at *
   generalize e4_ : q + 4 = q4 at *
   generalize e5_ : q + 5 = q5 at *
   generalize e6_ : q + 6 = q6 at *
   generalize e7_ : q + 7 = q7 at *
   generalize e8_ : q + 8 = q8 at *
   generalize e9_ : q + 9 = q9 at *
   generalize e10_ : q + 10 = q10 at *
   obtain ⟨B7, eB7⟩ : ∃ B, (((q7 : Nat) : Int) % 3 == 0) = B := ⟨_, rfl⟩
   have HB7_ := Lib.hid eB7
   obtain ⟨p0, ep0⟩ : ∃ p, o + m * 10 = p := ⟨_, rfl⟩
   have HP := Lib.hid ep0
   obtain ⟨r1, er1⟩ : ∃ r, setAll row (p0) [.int .i64 (q : Int)] = r := ⟨_, rfl⟩
   have sr1 : r1.size = row.size := by rw [← er1, setAll_size]
   obtain ⟨r2, er2⟩ : ∃ r, setAll r1 (p0 + 1) [.int .i64 (q1 : Int)] = r := ⟨_, rfl⟩
   have sr2 : r2.size = row.size := by rw [← er2, setAll_size, sr1]
   obtain ⟨r3, er3⟩ : ∃ r, setAll r2 (p0 + 2) [.int .i64 (q2 : Int)] = r := ⟨_, rfl⟩
   have sr3 : r3.size = row.size := by rw [← er3, setAll_size, sr2]
   obtain ⟨r4, er4⟩ : ∃ r, setAll r3 (p0 + 3) [.int .i64 (q3 : Int)] = r := ⟨_, rfl⟩
   have sr4 : r4.size = row.size := by rw [← er4, setAll_size, sr3]
   obtain ⟨r5, er5⟩ : ∃ r, setAll r4 (p0 + 4) [.int .i64 (q4 : Int)] = r := ⟨_, rfl⟩
   have sr5 : r5.size = row.size := by rw [← er5, setAll_size, sr4]
   obtain ⟨r6, er6⟩ : ∃ r, setAll r5 (p0 + 5) [.int .i64 (q5 : Int)] = r := ⟨_, rfl⟩
   have sr6 : r6.size = row.size := by rw [← er6, setAll_size, sr5]
   obtain ⟨r7, er7⟩ : ∃ r, setAll r6 (p0 + 6) [.int .i64 (q6 : Int)] = r := ⟨_, rfl⟩
   have sr7 : r7.size = row.size := by rw [← er7, setAll_size, sr6]
   obtain ⟨r8, er8⟩ : ∃ r, setAll r7 (p0 + 7) [.bool B7] = r := ⟨_, rfl⟩
   have sr8 : r8.size = row.size := by rw [← er8, setAll_size, sr7]
   obtain ⟨r9, er9⟩ : ∃ r, setAll r8 (p0 + 8) [.int .i64 (q8 : Int)] = r := ⟨_, rfl⟩
   have sr9 : r9.size = row.size := by rw [← er9, setAll_size, sr8]
   obtain ⟨r10, er10⟩ : ∃ r, setAll r9 (p0 + 9) [.int .i64 (q9 : Int)] = r := ⟨_, rfl⟩
   have sr10 : r10.size = row.size := by rw [← er10, setAll_size, sr9]
   have HER := Lib.hid (And.intro er1 (And.intro er2 (And.intro er3 (And.intro er4 (And.intro er5 (And.intro er6 (And.intro er7 (And.intro er8 (And.intro er9 er10)))))))))
   rw [ep0] at hroom
   have k0 : Nat.ble (p0 + 1) row.size = true := Nat.ble_eq_true_of_le (by omega)
   have k1 : Nat.ble (p0 + 1 + 1) r1.size = true := Nat.ble_eq_true_of_le (by omega)
   have k2 : Nat.ble (p0 + 2 + 1) r2.size = true := Nat.ble_eq_true_of_le (by omega)
   have k3 : Nat.ble (p0 + 3 + 1) r3.size = true := Nat.ble_eq_true_of_le (by omega)
   have k4 : Nat.ble (p0 + 4 + 1) r4.size = true := Nat.ble_eq_true_of_le (by omega)
   have k5 : Nat.ble (p0 + 5 + 1) r5.size = true := Nat.ble_eq_true_of_le (by omega)
   have k6 : Nat.ble (p0 + 6 + 1) r6.size = true := Nat.ble_eq_true_of_le (by omega)
   have k7 : Nat.ble (p0 + 7 + 1) r7.size = true := Nat.ble_eq_true_of_le (by omega)
   have k8 : Nat.ble (p0 + 8 + 1) r8.size = true := Nat.ble_eq_true_of_le (by omega)
   have k9 : Nat.ble (p0 + 9 + 1) r9.size = true := Nat.ble_eq_true_of_le (by omega)
   have HE := Lib.hid (And.intro e1_ (And.intro e2_ (And.intro e3_ (And.intro e4_ (And.intro e5_ (And.intro e6_ (And.intro e7_ (And.intro e8_ (And.intro e9_ e10_)))))))))
   clear er1 er2 er3 er4 er5 er6 er7 er8 er9 er10 e1_ e2_ e3_ e4_ e5_ e6_ e7_ e8_ e9_ e10_ hrs hk hroom hq sr1 sr2 sr3 sr4 sr5 sr6 sr7 sr8 sr9
   clear ep0
   go_wp2_with (first
    | (refine wpList_put_at rfl 2 (.tmp 17) (.tmp 14) rfl rfl b (o + m * 10) rfl (.int .i64 (q : Int)) rfl #[.int .i64 (q : Int)] rfl 162 row r1 HA.out (by kernel_rfl) (by rw [HP.out]; exact k0) rfl (by rw [HP.out]; exact HER.out.1) ?_; intro x1 g0 o0; have HA1 := Lib.hid g0; have HB1 := Lib.hid (HB.out.trans (o0.widen hlo hhi)); clear g0 o0)
    | (refine wpList_put_at rfl 2 (.tmp 25) (.tmp 22) rfl rfl b (o + m * 10 + 1) rfl (.int .i64 (q1 : Int)) rfl #[.int .i64 (q1 : Int)] rfl 162 r1 r2 HA1.out (by kernel_rfl) (by rw [HP.out]; exact k1) rfl (by rw [HP.out]; exact HER.out.2.1) ?_; intro x2 g1 o1; have HA2 := Lib.hid g1; have HB2 := Lib.hid (HB1.out.trans (o1.widen hlo hhi)); clear g1 o1)
    | (refine wpList_put_at rfl 2 (.tmp 33) (.tmp 30) rfl rfl b (o + m * 10 + 2) rfl (.int .i64 (q2 : Int)) rfl #[.int .i64 (q2 : Int)] rfl 162 r2 r3 HA2.out (by kernel_rfl) (by rw [HP.out]; exact k2) rfl (by rw [HP.out]; exact HER.out.2.2.1) ?_; intro x3 g2 o2; have HA3 := Lib.hid g2; have HB3 := Lib.hid (HB2.out.trans (o2.widen hlo hhi)); clear g2 o2)
    | (refine wpList_put_at rfl 2 (.tmp 41) (.tmp 38) rfl rfl b (o + m * 10 + 3) rfl (.int .i64 (q3 : Int)) rfl #[.int .i64 (q3 : Int)] rfl 162 r3 r4 HA3.out (by kernel_rfl) (by rw [HP.out]; exact k3) rfl (by rw [HP.out]; exact HER.out.2.2.2.1) ?_; intro x4 g3 o3; have HA4 := Lib.hid g3; have HB4 := Lib.hid (HB3.out.trans (o3.widen hlo hhi)); clear g3 o3)
    | (refine wpList_put_at rfl 2 (.tmp 49) (.tmp 46) rfl rfl b (o + m * 10 + 4) rfl (.int .i64 (q4 : Int)) rfl #[.int .i64 (q4 : Int)] rfl 162 r4 r5 HA4.out (by kernel_rfl) (by rw [HP.out]; exact k4) rfl (by rw [HP.out]; exact HER.out.2.2.2.2.1) ?_; intro x5 g4 o4; have HA5 := Lib.hid g4; have HB5 := Lib.hid (HB4.out.trans (o4.widen hlo hhi)); clear g4 o4)
    | (refine wpList_put_at rfl 2 (.tmp 57) (.tmp 54) rfl rfl b (o + m * 10 + 5) rfl (.int .i64 (q5 : Int)) rfl #[.int .i64 (q5 : Int)] rfl 162 r5 r6 HA5.out (by kernel_rfl) (by rw [HP.out]; exact k5) rfl (by rw [HP.out]; exact HER.out.2.2.2.2.2.1) ?_; intro x6 g5 o5; have HA6 := Lib.hid g5; have HB6 := Lib.hid (HB5.out.trans (o5.widen hlo hhi)); clear g5 o5)
    | (refine wpList_put_at rfl 2 (.tmp 65) (.tmp 62) rfl rfl b (o + m * 10 + 6) rfl (.int .i64 (q6 : Int)) rfl #[.int .i64 (q6 : Int)] rfl 162 r6 r7 HA6.out (by kernel_rfl) (by rw [HP.out]; exact k6) rfl (by rw [HP.out]; exact HER.out.2.2.2.2.2.2.1) ?_; intro x7 g6 o6; have HA7 := Lib.hid g6; have HB7 := Lib.hid (HB6.out.trans (o6.widen hlo hhi)); clear g6 o6)
    | (refine wpList_put_at rfl 4 (.tmp 75) (.tmp 72) rfl rfl b (o + m * 10 + 7) rfl (.bool B7) rfl #[.bool B7] rfl 162 r7 r8 HA7.out (by kernel_rfl) (by rw [HP.out]; exact k7) rfl (by rw [HP.out]; exact HER.out.2.2.2.2.2.2.2.1) ?_; intro x8 g7 o7; have HA8 := Lib.hid g7; have HB8 := Lib.hid (HB7.out.trans (o7.widen hlo hhi)); clear g7 o7)
    | (refine wpList_put_at rfl 2 (.tmp 82) (.tmp 80) rfl rfl b (o + m * 10 + 8) rfl (.int .i64 (q8 : Int)) rfl #[.int .i64 (q8 : Int)] rfl 162 r8 r9 HA8.out (by kernel_rfl) (by rw [HP.out]; exact k8) rfl (by rw [HP.out]; exact HER.out.2.2.2.2.2.2.2.2.1) ?_; intro x9 g8 o8; have HA9 := Lib.hid g8; have HB9 := Lib.hid (HB8.out.trans (o8.widen hlo hhi)); clear g8 o8)
    | (refine wpList_put_at rfl 2 (.tmp 89) (.tmp 87) rfl rfl b (o + m * 10 + 9) rfl (.int .i64 (q9 : Int)) rfl #[.int .i64 (q9 : Int)] rfl 162 r9 r10 HA9.out (by kernel_rfl) (by rw [HP.out]; exact k9) rfl (by rw [HP.out]; exact HER.out.2.2.2.2.2.2.2.2.2) ?_; intro x10 g9 o9; have HA10 := Lib.hid g9; have HB10 := Lib.hid (HB9.out.trans (o9.widen hlo hhi)); clear g9 o9))
   go_roundw
   case rel =>
    refine ⟨m + 1, r10, by go_num, by rw [HK.out], by omega, HB10.out, HA10.out, by rw [sr10]; exact HRS.out, fun j hj c v hv => ?_⟩
    obtain ⟨E1, E2, E3, E4, E5, E6, E7, E8, E9, E10⟩ := HER.out
    obtain ⟨F1, F2, F3, F4, F5, F6, F7, F8, F9, F10⟩ := HE.out
    have hp := HP.out
    have hrs2 := HRS.out
    have hc7 : c < 10 := by
     have := (List.getElem?_eq_some_iff.1 hv).1
     rwa [dvL_len] at this
    rcases Nat.lt_or_ge j m with h | h
    ·have hlt : o + j * 10 + c < p0 := by omega
     rw [← E10, setAll_off _ _ _ _ (.inl (by omega)), ← E9, setAll_off _ _ _ _ (.inl (by omega)), ← E8, setAll_off _ _ _ _ (.inl (by omega)), ← E7, setAll_off _ _ _ _ (.inl (by omega)), ← E6, setAll_off _ _ _ _ (.inl (by omega)), ← E5, setAll_off _ _ _ _ (.inl (by omega)), ← E4, setAll_off _ _ _ _ (.inl (by omega)), ← E3, setAll_off _ _ _ _ (.inl (by omega)), ← E2, setAll_off _ _ _ _ (.inl (by omega)), ← E1, setAll_off _ _ _ _ (.inl (by omega))]
     exact HD.out j h c v hv
    ·obtain rfl : j = m := by omega
     rw [HQ.out] at hv
     unfold markDv dvL at hv
     dsimp only at hv
     rw [F1, F2, F3, F4, F5, F6, F7, F8, F9, HB7_.out] at hv
     rw [hp]
     have z : ∀ (rr : Array Value) (p : Nat) (u : Value), p < rr.size → (setAll rr p [u])[p]? = some u := fun rr p u hp => by
      have := setAll_at [u] rr p 0 u (by show p + 1 ≤ _; omega) rfl
      simpa using this
     have y : ∀ (rr : Array Value) (p p' : Nat) (u : Value), p' < p → (setAll rr p [u])[p']? = rr[p']? := fun rr p p' u hp => setAll_off _ _ _ _ (.inl hp)
     rcases c with _ | _ | _ | _ | _ | _ | _ | _ | _ | _ | c
     ·simp at hv
      subst hv
      rw [← E10, y _ _ _ _ (by omega), ← E9, y _ _ _ _ (by omega), ← E8, y _ _ _ _ (by omega), ← E7, y _ _ _ _ (by omega), ← E6, y _ _ _ _ (by omega), ← E5, y _ _ _ _ (by omega), ← E4, y _ _ _ _ (by omega), ← E3, y _ _ _ _ (by omega), ← E2, y _ _ _ _ (by omega), ← E1]
      exact z _ _ _ (by have a0 := congrArg Array.size E1; have a1 := congrArg Array.size E2; have a2 := congrArg Array.size E3; have a3 := congrArg Array.size E4; have a4 := congrArg Array.size E5; have a5 := congrArg Array.size E6; have a6 := congrArg Array.size E7; have a7 := congrArg Array.size E8; have a8 := congrArg Array.size E9; have a9 := congrArg Array.size E10; rw [setAll_size] at a0 a1 a2 a3 a4 a5 a6 a7 a8 a9; omega)
     ·simp at hv
      subst hv
      rw [← E10, y _ _ _ _ (by omega), ← E9, y _ _ _ _ (by omega), ← E8, y _ _ _ _ (by omega), ← E7, y _ _ _ _ (by omega), ← E6, y _ _ _ _ (by omega), ← E5, y _ _ _ _ (by omega), ← E4, y _ _ _ _ (by omega), ← E3, y _ _ _ _ (by omega), ← E2]
      exact z _ _ _ (by have a0 := congrArg Array.size E1; have a1 := congrArg Array.size E2; have a2 := congrArg Array.size E3; have a3 := congrArg Array.size E4; have a4 := congrArg Array.size E5; have a5 := congrArg Array.size E6; have a6 := congrArg Array.size E7; have a7 := congrArg Array.size E8; have a8 := congrArg Array.size E9; have a9 := congrArg Array.size E10; rw [setAll_size] at a0 a1 a2 a3 a4 a5 a6 a7 a8 a9; omega)
     ·simp at hv
      subst hv
      rw [← E10, y _ _ _ _ (by omega), ← E9, y _ _ _ _ (by omega), ← E8, y _ _ _ _ (by omega), ← E7, y _ _ _ _ (by omega), ← E6, y _ _ _ _ (by omega), ← E5, y _ _ _ _ (by omega), ← E4, y _ _ _ _ (by omega), ← E3]
      exact z _ _ _ (by have a0 := congrArg Array.size E1; have a1 := congrArg Array.size E2; have a2 := congrArg Array.size E3; have a3 := congrArg Array.size E4; have a4 := congrArg Array.size E5; have a5 := congrArg Array.size E6; have a6 := congrArg Array.size E7; have a7 := congrArg Array.size E8; have a8 := congrArg Array.size E9; have a9 := congrArg Array.size E10; rw [setAll_size] at a0 a1 a2 a3 a4 a5 a6 a7 a8 a9; omega)
     ·simp at hv
      subst hv
      rw [← E10, y _ _ _ _ (by omega), ← E9, y _ _ _ _ (by omega), ← E8, y _ _ _ _ (by omega), ← E7, y _ _ _ _ (by omega), ← E6, y _ _ _ _ (by omega), ← E5, y _ _ _ _ (by omega), ← E4]
      exact z _ _ _ (by have a0 := congrArg Array.size E1; have a1 := congrArg Array.size E2; have a2 := congrArg Array.size E3; have a3 := congrArg Array.size E4; have a4 := congrArg Array.size E5; have a5 := congrArg Array.size E6; have a6 := congrArg Array.size E7; have a7 := congrArg Array.size E8; have a8 := congrArg Array.size E9; have a9 := congrArg Array.size E10; rw [setAll_size] at a0 a1 a2 a3 a4 a5 a6 a7 a8 a9; omega)
     ·simp at hv
      subst hv
      rw [← E10, y _ _ _ _ (by omega), ← E9, y _ _ _ _ (by omega), ← E8, y _ _ _ _ (by omega), ← E7, y _ _ _ _ (by omega), ← E6, y _ _ _ _ (by omega), ← E5]
      exact z _ _ _ (by have a0 := congrArg Array.size E1; have a1 := congrArg Array.size E2; have a2 := congrArg Array.size E3; have a3 := congrArg Array.size E4; have a4 := congrArg Array.size E5; have a5 := congrArg Array.size E6; have a6 := congrArg Array.size E7; have a7 := congrArg Array.size E8; have a8 := congrArg Array.size E9; have a9 := congrArg Array.size E10; rw [setAll_size] at a0 a1 a2 a3 a4 a5 a6 a7 a8 a9; omega)
     ·simp at hv
      subst hv
      rw [← E10, y _ _ _ _ (by omega), ← E9, y _ _ _ _ (by omega), ← E8, y _ _ _ _ (by omega), ← E7, y _ _ _ _ (by omega), ← E6]
      exact z _ _ _ (by have a0 := congrArg Array.size E1; have a1 := congrArg Array.size E2; have a2 := congrArg Array.size E3; have a3 := congrArg Array.size E4; have a4 := congrArg Array.size E5; have a5 := congrArg Array.size E6; have a6 := congrArg Array.size E7; have a7 := congrArg Array.size E8; have a8 := congrArg Array.size E9; have a9 := congrArg Array.size E10; rw [setAll_size] at a0 a1 a2 a3 a4 a5 a6 a7 a8 a9; omega)
     ·simp at hv
      subst hv
      rw [← E10, y _ _ _ _ (by omega), ← E9, y _ _ _ _ (by omega), ← E8, y _ _ _ _ (by omega), ← E7]
      exact z _ _ _ (by have a0 := congrArg Array.size E1; have a1 := congrArg Array.size E2; have a2 := congrArg Array.size E3; have a3 := congrArg Array.size E4; have a4 := congrArg Array.size E5; have a5 := congrArg Array.size E6; have a6 := congrArg Array.size E7; have a7 := congrArg Array.size E8; have a8 := congrArg Array.size E9; have a9 := congrArg Array.size E10; rw [setAll_size] at a0 a1 a2 a3 a4 a5 a6 a7 a8 a9; omega)
     ·simp at hv
      subst hv
      rw [← E10, y _ _ _ _ (by omega), ← E9, y _ _ _ _ (by omega), ← E8]
      exact z _ _ _ (by have a0 := congrArg Array.size E1; have a1 := congrArg Array.size E2; have a2 := congrArg Array.size E3; have a3 := congrArg Array.size E4; have a4 := congrArg Array.size E5; have a5 := congrArg Array.size E6; have a6 := congrArg Array.size E7; have a7 := congrArg Array.size E8; have a8 := congrArg Array.size E9; have a9 := congrArg Array.size E10; rw [setAll_size] at a0 a1 a2 a3 a4 a5 a6 a7 a8 a9; omega)
     ·simp at hv
      subst hv
      rw [← E10, y _ _ _ _ (by omega), ← E9]
      exact z _ _ _ (by have a0 := congrArg Array.size E1; have a1 := congrArg Array.size E2; have a2 := congrArg Array.size E3; have a3 := congrArg Array.size E4; have a4 := congrArg Array.size E5; have a5 := congrArg Array.size E6; have a6 := congrArg Array.size E7; have a7 := congrArg Array.size E8; have a8 := congrArg Array.size E9; have a9 := congrArg Array.size E10; rw [setAll_size] at a0 a1 a2 a3 a4 a5 a6 a7 a8 a9; omega)
     ·simp at hv
      subst hv
      rw [← E10]
      exact z _ _ _ (by have a0 := congrArg Array.size E1; have a1 := congrArg Array.size E2; have a2 := congrArg Array.size E3; have a3 := congrArg Array.size E4; have a4 := congrArg Array.size E5; have a5 := congrArg Array.size E6; have a6 := congrArg Array.size E7; have a7 := congrArg Array.size E8; have a8 := congrArg Array.size E9; have a9 := congrArg Array.size E10; rw [setAll_size] at a0 a1 a2 a3 a4 a5 a6 a7 a8 a9; omega)
     ·omega
   case measure => simp [intOf]; omega
  ·have hge : N ≤ m := by omega
   go_wp2_with fail
   go_ret
   refine ⟨by rw [show N = m by omega]; rfl, .inr ⟨b, o, row, rfl, hlo, hhi, HA.out, by rw [marksDv_length]; exact HRS.out, fun i x hx c v hv => ?_⟩, HB.out⟩
   obtain ⟨hi', rfl⟩ := marksDv_at hx
   exact HD.out i (by omega) c v hv
set_option maxRecDepth 100000 in
set_option maxHeartbeats 8000000 in
theorem heldDeviceS_any {lo hi : Nat} (a : Option Addr) (cap : Nat) (N : Nat) (k : Nat) (w : World) (h : RsNew dvL 10 162 lo hi w a (marksDv k N)) (hk0 : 0 < k) (hk : k + 10 * N ≤ 30000000) :
  Calls Tryz.prog 119 #[.slice a N cap, .int .i64 (k : Int)] w fun e w' => e = .returned (.int .i64 ((k + 10 * N : Nat) : Int)) ∧ Below w.heap.size w w' := by
 have HI := Lib.hid h
 have hN8 : N ≤ 30000000 := by omega
 clear h
 go_enter Tryz.func119, Tryz.ntmps119
 go_wp2_with fail
 go_loopw [1, 5] (fun u i wr => ∃ m : Nat, i = .int .i64 (m : Int) ∧ u = .int .i64 ((k + 10 * m : Nat) : Int) ∧ m ≤ N ∧ Below w.heap.size w wr) (fun _ i _ => N - (intOf i).toNat)
 case atStart => exact ⟨0, rfl, rfl, by omega, Below.refl _ _⟩
 case round =>
  obtain ⟨m, rfl, rfl, hm, hb⟩ := hrel
  by_cases hmn : m < N
  ·obtain ⟨b, o, row, rfl, _, _, hg, _, hc⟩ : ∃ b o row, a = some ⟨b, o, none⟩ ∧ lo ≤ b ∧ b < hi ∧ w.heap[b]? = some (.cells row 162 (0, 0)) ∧ o + (marksDv k N).length * 10 ≤ row.size ∧ ∀ (i : Nat) x, (marksDv k N)[i]? = some x → ∀ (j : Nat) v, (dvL x)[j]? = some v → row[o + i * 10 + j]? = some v := by
    rcases HI.out with h | h
    ·have := marksDv_length k N
     rw [h] at this
     simp at this
     omega
    ·exact h
   have hx := hc m _ (marksDv_get hmn)
   have hgw := (hb.block b (Array.getElem?_eq_some_iff.1 hg).1).trans hg
   have HG := Lib.hid hgw
   have hi1 : (0 : Int) ≤ (m : Int) := by omega
   have hi2 : (m : Int) < (N : Int) := by omega
   have HK := Lib.hid (show k + 10 * (m + 1) = k + 10 * m + 10 by omega)
   have hq : k + 10 * m + 10 ≤ 30000000 := by omega
   obtain ⟨q, eq⟩ : ∃ q, k + 10 * m = q := ⟨_, rfl⟩
   have hq0 : 0 < q := by omega
   rw [eq] at hq HK hx ⊢
   unfold markDv dvL at hx
   dsimp only at hx
   have c0 := hx 0 _ rfl
   have c1 := hx 1 _ rfl
   have c2 := hx 2 _ rfl
   have c3 := hx 3 _ rfl
   have c4 := hx 4 _ rfl
   have c5 := hx 5 _ rfl
   have c6 := hx 6 _ rfl
   have c7 := hx 7 _ rfl
   have c8 := hx 8 _ rfl
   have c9 := hx 9 _ rfl
   have w0_ : IntKind.i64.wrap (((q : Nat) : Int) + 1) = ((q + 1 : Nat) : Int) := by rw [IntWalk.i64_in _ (by omega)]; omega
   have w1_ : IntKind.i64.wrap (((q + 1 : Nat) : Int) + 1) = ((q + 2 : Nat) : Int) := by rw [IntWalk.i64_in _ (by omega)]; omega
   have w2_ : IntKind.i64.wrap (((q + 2 : Nat) : Int) + 1) = ((q + 3 : Nat) : Int) := by rw [IntWalk.i64_in _ (by omega)]; omega
   have w3_ : IntKind.i64.wrap (((q + 3 : Nat) : Int) + 1) = ((q + 4 : Nat) : Int) := by rw [IntWalk.i64_in _ (by omega)]; omega
   have w4_ : IntKind.i64.wrap (((q + 4 : Nat) : Int) + 1) = ((q + 5 : Nat) : Int) := by rw [IntWalk.i64_in _ (by omega)]; omega
   have w5_ : IntKind.i64.wrap (((q + 5 : Nat) : Int) + 1) = ((q + 6 : Nat) : Int) := by rw [IntWalk.i64_in _ (by omega)]; omega
   have w6_ : IntKind.i64.wrap (((q + 6 : Nat) : Int) + 1) = ((q + 7 : Nat) : Int) := by rw [IntWalk.i64_in _ (by omega)]; omega
   have w7_ : IntKind.i64.wrap (((q + 7 : Nat) : Int) + 1) = ((q + 8 : Nat) : Int) := by rw [IntWalk.i64_in _ (by omega)]; omega
   have w8_ : IntKind.i64.wrap (((q + 8 : Nat) : Int) + 1) = ((q + 9 : Nat) : Int) := by rw [IntWalk.i64_in _ (by omega)]; omega
   have w9_ : IntKind.i64.wrap (((q + 9 : Nat) : Int) + 1) = ((q + 10 : Nat) : Int) := by rw [IntWalk.i64_in _ (by omega)]; omega
   have m7_ : ((q + 7 : Nat) : Int).tmod 3 = ((q + 7 : Nat) : Int) % 3 := Int.tmod_eq_emod_of_nonneg (by omega)
   clear hx hc hg hgw hk hq hq0 eq
   rw [Nat.add_zero] at c0
   generalize q + 1 = q1 at *
   generalize q + 2 = q2 at *
   generalize q + 3 = q3 at *
   generalize q + 4 = q4 at *
   generalize q + 5 = q5 at *
   generalize q + 6 = q6 at *
   generalize q + 7 = q7 at *
   generalize q + 8 = q8 at *
   generalize q + 9 = q9 at *
   generalize q + 10 = q10 at *
   obtain ⟨B7, eB7⟩ : ∃ B, (((q7 : Nat) : Int) % 3 == 0) = B := ⟨_, rfl⟩
   rw [eB7] at c7
   have n0 : ((q : Int) != (q : Int)) = false := by simp
   have n1 : ((q1 : Int) != (q1 : Int)) = false := by simp
   have n2 : ((q2 : Int) != (q2 : Int)) = false := by simp
   have n3 : ((q3 : Int) != (q3 : Int)) = false := by simp
   have n4 : ((q4 : Int) != (q4 : Int)) = false := by simp
   have n5 : ((q5 : Int) != (q5 : Int)) = false := by simp
   have n6 : ((q6 : Int) != (q6 : Int)) = false := by simp
   have n7 : (B7 != B7) = false := by simp
   have n8 : ((q8 : Int) != (q8 : Int)) = false := by simp
   have n9 : ((q9 : Int) != (q9 : Int)) = false := by simp
   go_wp2_with (first
    | (refine wpList_load_one rfl 2 (.tmp 16) rfl b (o + m * 10) rfl 162 row (0, 0) HG.out _ c0 _ Tryz.underlying2 rfl (by kernel_rfl) ?_)
    | (refine wpList_load_one rfl 2 (.tmp 26) rfl b (o + m * 10 + 1) rfl 162 row (0, 0) HG.out _ c1 _ Tryz.underlying2 rfl (by kernel_rfl) ?_)
    | (refine wpList_load_one rfl 2 (.tmp 36) rfl b (o + m * 10 + 2) rfl 162 row (0, 0) HG.out _ c2 _ Tryz.underlying2 rfl (by kernel_rfl) ?_)
    | (refine wpList_load_one rfl 2 (.tmp 46) rfl b (o + m * 10 + 3) rfl 162 row (0, 0) HG.out _ c3 _ Tryz.underlying2 rfl (by kernel_rfl) ?_)
    | (refine wpList_load_one rfl 2 (.tmp 56) rfl b (o + m * 10 + 4) rfl 162 row (0, 0) HG.out _ c4 _ Tryz.underlying2 rfl (by kernel_rfl) ?_)
    | (refine wpList_load_one rfl 2 (.tmp 66) rfl b (o + m * 10 + 5) rfl 162 row (0, 0) HG.out _ c5 _ Tryz.underlying2 rfl (by kernel_rfl) ?_)
    | (refine wpList_load_one rfl 2 (.tmp 76) rfl b (o + m * 10 + 6) rfl 162 row (0, 0) HG.out _ c6 _ Tryz.underlying2 rfl (by kernel_rfl) ?_)
    | (refine wpList_load_one rfl 4 (.tmp 86) rfl b (o + m * 10 + 7) rfl 162 row (0, 0) HG.out _ c7 _ Tryz.underlying4 rfl (by kernel_rfl) ?_)
    | (refine wpList_load_one rfl 2 (.tmp 97) rfl b (o + m * 10 + 8) rfl 162 row (0, 0) HG.out _ c8 _ Tryz.underlying2 rfl (by kernel_rfl) ?_)
    | (refine wpList_load_one rfl 2 (.tmp 106) rfl b (o + m * 10 + 9) rfl 162 row (0, 0) HG.out _ c9 _ Tryz.underlying2 rfl (by kernel_rfl) ?_))
   go_roundw
   case rel => exact ⟨m + 1, by go_num, by rw [HK.out], by omega, hb⟩
   case measure => simp [intOf]; omega
  ·have hge : N ≤ m := by omega
   go_wp2_with fail
   go_ret
   exact ⟨by rw [show N = m by omega]; rfl, hb⟩
end Go.Proofs.YtioldepgoodipaaGreat
namespace Go.Proofs.YtioldepgoodipaaGreat
open Go.RowKit Go.ChangeShapes Go.WideShapes Go.ChangeAt Go.Joins
set_option linter.unusedVariables false
section
variable {H : Type} {enc : TypeId × Value → H} {w : World} {base : Nat} {spare : Nat → Bool} {held : Bool} {b0 : Nat} {r : Reach} {v : Value} {d : DataW H} {ps : List MemPlace}
def DvOk (x : Dv) : Prop := (I64 x.n.u ∧ I64 x.n.m ∧ I64 x.n.i ∧ I64 x.n.f ∧ I64 x.n.c ∧ I64 x.n.s ∧ I64 x.n.y) ∧ I64 x.ad ∧ I64 x.g
def IsDvs (w : World) (v : Value) : Prop := ∃ (a : Option Addr) (cap : Nat) (l : List Dv), v = .slice a l.length cap ∧ RsIn dvL 10 w a l ∧ (∀ x ∈ l, DvOk x) ∧ l.length ≤ maxLen
theorem cells_rowDv : Tryz.prog.cellsOf 165 = 10 := by kernel_rfl
theorem cells_intDv : Tryz.prog.cellsOf 2 = 1 := by kernel_rfl
theorem list_Dv {α : Type} {l : List α} (h : l.length = 10) : ∃ x0 x1 x2 x3 x4 x5 x6 x7 x8 x9, l = [x0, x1, x2, x3, x4, x5, x6, x7, x8, x9] := by
 match l, h with
 | [x0, x1, x2, x3, x4, x5, x6, x7, x8, x9], _ => exact ⟨x0, x1, x2, x3, x4, x5, x6, x7, x8, x9, rfl⟩
theorem list_Dv3 {α : Type} {l : List α} (h : l.length = 3) : ∃ x0 x1 x2, l = [x0, x1, x2] := by
 match l, h with
 | [x0, x1, x2], _ => exact ⟨x0, x1, x2, rfl⟩
set_option maxRecDepth 100000 in
theorem Dv_of_trod {fuel : Nat} {cs : List Value} {x : DataW H × List MemPlace} (hl : cs.length = 10) (hf : DataW.trod enc Tryz.prog w base spare held fuel 165 cs = some x) :
  ∃ y : Dv, cs = dvL y ∧ DvOk y := by
 obtain ⟨c0, c1, c2, c3, c4, c5, c6, c7, c8, c9, rfl⟩ := list_Dv hl
 obtain ⟨xs, n, _, _, _, hlen, hall⟩ := DataW.trod_struct Tryz.underlying165 hf
 obtain ⟨y0, y1, y2, rfl⟩ := list_Dv3 (by simpa using hlen)
 have h0 := hall 0 _ rfl
 have h1 := hall 1 _ rfl
 have h2 := hall 2 _ rfl
 clear hall hf hlen
 simp [cells_Nm, cells_intDv] at h0 h1 h2
 obtain ⟨m, rfl, rfl, rfl, rfl, rfl, rfl, rfl, rfl, hm⟩ := nm_of_trod h0
 obtain ⟨ad, e1, _, w1⟩ := DataW.trod_int Tryz.underlying2 h1
 obtain ⟨g, e2, _, w2⟩ := DataW.trod_int Tryz.underlying2 h2
 simp at e1 e2
 subst e1 e2
 exact ⟨⟨m, ad, g⟩, rfl, hm, I64.of_wf w1, I64.of_wf w2⟩
set_option maxRecDepth 100000 in
theorem Dvs_of_trod {fuel : Nat} {cs : List Value} {x : DataW H × List MemPlace} (hf : DataW.trod enc Tryz.prog w base spare held fuel 31 cs = some x) :
  ∃ (a : Option Addr) (cap : Nat) (l : List Dv), cs = [.slice a l.length cap] ∧ RsIn dvL 10 w a l ∧ (∀ x ∈ l, DvOk x) ∧ l.length ≤ maxLen := by
 rcases DataW.trod_slice Tryz.underlying31 hf with ⟨hcs, _⟩ | ⟨a', len', cap', elems, rest, n, _, hcs, _, hb, hl, hm, hlen, hel, _, _⟩
 ·subst hcs
  exact ⟨none, 0, [], rfl, .inl rfl, (by intro x hx; cases hx), by simp⟩
 ·subst hcs
  have each : ∀ i, i < len' → ∃ x : Dv, DvOk x ∧ a'.block < w.heap.size ∧ ∀ (j : Nat) v, (dvL x)[j]? = some v → w.cell? ((a'.add (i * 10)).add j) = some v := by
   intro i hi
   have := hel i hi
   rw [List.getElem?_eq_getElem (by omega), Option.bind_eq_some_iff, cells_rowDv] at this
   obtain ⟨cs', hcs, hy⟩ := this
   have hbk := World.cells?_block hcs (by omega)
   obtain ⟨_, hl2, hq⟩ := World.cells?_some hcs
   obtain ⟨x, rfl, hx⟩ := Dv_of_trod hl2 hy
   refine ⟨x, hx, ?_, fun j v hv => ?_⟩
   ·have : (a'.add (i * 10)).block = a'.block := by unfold Addr.add; split <;> rfl
    rwa [this] at hbk
   ·have hj := (List.getElem?_eq_some_iff.1 hv).1
    rw [hl2] at hj
    have := hq j hj
    rwa [hv] at this
  obtain ⟨l, hl, hp⟩ := list_of len' each
  subst hl
  refine ⟨some a', cap', l, rfl, ?_, ?_, by omega⟩
  ·rcases l with _ | ⟨x0, l⟩
   ·exact .inl rfl
   right
   have h0 := hp 0 x0 rfl
   obtain ⟨b, o, sp⟩ := a'
   have hsp : sp = none := by simpa [Addr.add] using World.cell?_spot (h0.2.2 0 _ rfl)
   subst hsp
   have hadd : ∀ b o i, (⟨b, o, none⟩ : Addr).add i = ⟨b, o + i, none⟩ := fun b o i => by unfold Addr.add; split <;> simp_all
   refine ⟨b, o, rfl, h0.2.1, fun i x hx j v hv => ?_⟩
   have := (hp i x hx).2.2 j v hv
   rwa [hadd, hadd] at this
  ·intro x hx
   obtain ⟨i, hi⟩ := List.getElem?_of_mem hx
   exact (hp i x hi).1
end
end Go.Proofs.YtioldepgoodipaaGreat
namespace Go.Proofs.YtioldepgoodipaaGreat
open Go.RowKit
set_option linter.unusedVariables false

def digL (k : Nat) (acc : List UInt8) : List UInt8 := if h : k = 0 then acc else digL (k / 10) (UInt8.ofNat (48 + k % 10) :: acc)
termination_by k
decreasing_by omega
theorem digL_zero (acc : List UInt8) : digL 0 acc = acc := by rw [digL]; simp
theorem digL_pos {k : Nat} (h : 0 < k) (acc : List UInt8) : digL k acc = digL (k / 10) (UInt8.ofNat (48 + k % 10) :: acc) := by rw [digL, dif_neg (by omega)]
def markT (k : Nat) : ByteArray := ⟨(109 :: digL k []).toArray⟩

set_option maxHeartbeats 1000000 in
theorem markText_any (k : Nat) (w : World) (h0 : 0 < k) (h1 : k ≤ 30000000) :
  Calls Tryz.prog 115 #[.int .i64 (k : Int)] w fun e w' => e = .returned (.string (markT k)) ∧ Below w.heap.size w w' := by
 have hd : decide ((k : Int) ≤ 0) = false := decide_eq_false (by omega)
 have HB := fun (W : World) (b : Int) (b0 : 0 ≤ b) (b1 : b ≤ 255) => Lib.hid (conv_row (P := Tryz.prog) (heap_alloc_new W (.cells #[.int .u8 b] 5)) (l := [UInt8.ofNat b.toNat]) 1 rfl (by simp [bcells]; omega) 153 9 Tryz.underlying153 Tryz.underlying5 Tryz.underlying9)
 go_enter Tryz.func115, Tryz.ntmps115
 go_wp2_with fail
 go_loopw [0, 3] (fun n t wr => ∃ (m : Nat) (acc : List UInt8), n = .int .i64 (m : Int) ∧ t = .string ⟨acc.toArray⟩ ∧ (acc.length ≤ 9 ∧ m < 10 ^ (9 - acc.length)) ∧ digL m acc = digL k [] ∧ Below w.heap.size w wr) (fun n _ _ => (intOf n).toNat)
 case atStart => exact ⟨k, [], rfl, rfl, ⟨by simp, Nat.lt_of_le_of_lt h1 (by decide)⟩, rfl, Below.refl _ _⟩
 case round =>
  obtain ⟨m, acc, rfl, rfl, ⟨hm, hm10⟩, hdig, hb⟩ := hrel
  have hmk : m < 10 ^ 9 := Nat.lt_of_lt_of_le hm10 (Nat.pow_le_pow_right (by decide) (by omega))
  have HD := Lib.hid hdig
  clear hdig
  by_cases hm0 : 0 < m
  ·have hd2 : decide (0 < (m : Int)) = true := decide_eq_true (by omega)
   have hm9 : acc.length ≤ 8 := by
    rcases Nat.lt_or_ge acc.length 9 with h | h
    ·omega
    ·rw [show 9 - acc.length = 0 by omega] at hm10
     omega
   have hm11 : m / 10 < 10 ^ (9 - (acc.length + 1)) := by
    refine Nat.div_lt_of_lt_mul ?_
    rw [Nat.mul_comm, ← Nat.pow_succ, show (9 - (acc.length + 1)).succ = 9 - acc.length by omega]
    exact hm10
   have HM11 := Lib.hid hm11
   clear hm10 hm11
   have HS := Lib.hid ((digL_pos hm0 acc).symm.trans HD.out)
   have hcv := (HB wr (48 + ((m : Int) % 10)) (by omega) (by omega)).out
   have e1 : (48 + ((m : Int) % 10)).toNat = 48 + m % 10 := by omega
   rw [e1] at hcv
   have hsz : (ByteArray.mk [UInt8.ofNat (48 + m % 10)].toArray).size = 1 := rfl
   have hsz2 : (ByteArray.mk acc.toArray).size = acc.length := by show acc.toArray.size = _; simp
   have hadd := run_string_add (P := Tryz.prog) (w := wr.alloc (.cells #[.int .u8 (48 + ((m : Int) % 10))] 5)) ⟨[UInt8.ofNat (48 + m % 10)].toArray⟩ ⟨acc.toArray⟩ (by rw [hsz]; omega) (by rw [hsz2]; omega)
   have hap : (ByteArray.mk [UInt8.ofNat (48 + m % 10)].toArray) ++ (ByteArray.mk acc.toArray) = ⟨(UInt8.ofNat (48 + m % 10) :: acc).toArray⟩ := by rw [ByteArray.mk_append_mk]; simp
   rw [hap] at hadd
   clear hap hsz hsz2 e1 HD HB
   generalize UInt8.ofNat (48 + m % 10) = c at *
   go_wp2_with fail
   go_roundw
   case rel => exact ⟨m / 10, c :: acc, by go_num, rfl, ⟨by simp; omega, by simpa using HM11.out⟩, HS.out, hb.alloc hb.size _⟩
   case measure => simp [intOf]; omega
  ·have hd2 : decide (0 < (m : Int)) = false := decide_eq_false (by omega)
   obtain rfl : m = 0 := by omega
   have HO := Lib.hid (show acc = digL k [] from (digL_zero acc).symm.trans HD.out)
   have hsz2 : (ByteArray.mk acc.toArray).size = acc.length := by show acc.toArray.size = _; simp
   have hadd := run_string_add (P := Tryz.prog) (w := wr) ⟨#[109]⟩ ⟨acc.toArray⟩ (by show (1 : Int) ≤ _; omega) (by rw [hsz2]; omega)
   have hap : (ByteArray.mk #[109]) ++ (ByteArray.mk acc.toArray) = ⟨(109 :: acc).toArray⟩ := by rw [ByteArray.mk_append_mk]; simp
   rw [hap] at hadd
   clear hap hsz2 HB HD
   go_wp2_with fail
   go_ret
   exact ⟨by unfold markT; rw [← HO.out]; rfl, hb⟩
end Go.Proofs.YtioldepgoodipaaGreat
namespace Go.Proofs.YtioldepgoodipaaGreat
open Go.RowKit
set_option linter.unusedVariables false

structure Gt where
 s : Int
 p : Int
 dt : ByteArray
def gtL (x : Gt) : List Value := [.int .i64 x.s, .int .i64 x.p, .string x.dt]
theorem gtL_len (x : Gt) : (gtL x).length = 3 := rfl
theorem gtL_one (x : Gt) : ∀ u ∈ gtL x, u.oneCell' = true := by
 intro u hu
 simp [gtL] at hu
 rcases hu with rfl | rfl | rfl <;> rfl
def gtAt (l : List Gt) (i : Nat) : Gt := l[i]?.getD ⟨0, 0, ByteArray.empty⟩
theorem gtAt_some {l : List Gt} {i : Nat} (h : i < l.length) : l[i]? = some (gtAt l i) := by
 unfold gtAt
 rw [List.getElem?_eq_getElem h]
 rfl
set_option maxRecDepth 100000 in
theorem szGot_any (x : Gt) (m : Int) (w : World) (h0 : 0 ≤ m) (h1 : m ≤ 1048576) (hx : x.dt.size ≤ maxLen) :
  Calls Tryz.prog 77 #[.agg (gtL x).toArray, .int .i64 m] w fun e w' => e = .returned (.int .i64 (if m - x.dt.size < 0 then -1 else m - x.dt.size)) ∧ Below w.heap.size w w' := by
 obtain ⟨s, p, dt⟩ := x
 unfold gtL
 dsimp only at *
 unfold maxLen at hx
 have hw : IntKind.i64.wrap (m - (dt.size : Int)) = m - dt.size := IntWalk.i64_in _ (by omega)
 by_cases hn : m - (dt.size : Int) < 0
 ·rw [if_pos hn]
  have hd : decide (m - (dt.size : Int) < 0) = true := decide_eq_true hn
  clear hn
  go_enter Tryz.func77, Tryz.ntmps77
  go_wp2
  go_ret
  exact ⟨rfl, (Below.refl _ _).alloc (Nat.le_refl _) _⟩
 ·rw [if_neg hn]
  have hd : decide (m - (dt.size : Int) < 0) = false := decide_eq_false hn
  clear hn
  go_enter Tryz.func77, Tryz.ntmps77
  go_wp2
  go_ret
  exact ⟨rfl, (Below.refl _ _).alloc (Nat.le_refl _) _⟩
set_option maxRecDepth 100000 in
set_option maxHeartbeats 1000000 in
theorem szGotS_more (a : Option Addr) (cap : Nat) (l : List Gt) (m0 : Int) (w : World) (h : RsIn gtL 3 w a l) (hok : ∀ i, i < l.length → (gtAt l i).dt.size ≤ maxLen) (hlen : l.length ≤ maxLen) (hm0 : 0 ≤ m0) (hm1 : m0 ≤ 1048576) :
  Calls Tryz.prog 29 #[.slice a l.length cap, .int .i64 m0] w fun e w' => ∃ m : Int, e = .returned (.int .i64 m) ∧ -1 ≤ m ∧ m ≤ 1048576 ∧ (0 ≤ m → l.length ≤ 1048576 ∧ ∀ i, i < l.length → (gtAt l i).dt.size ≤ 1048576) ∧ Below w.heap.size w w' := by
 unfold maxLen at hlen
 by_cases hbig : m0 < l.length
 ·have hd : decide (m0 - (l.length : Int) < 0) = true := decide_eq_true (by omega)
  have hw : IntKind.i64.wrap (m0 - (l.length : Int)) = m0 - l.length := IntWalk.i64_in _ (by omega)
  go_enter Tryz.func29, Tryz.ntmps29
  go_wp2_with fail
  go_ret
  exact ⟨-1, rfl, by omega, by omega, fun q => absurd q (by omega), Below.refl _ _⟩
 ·have hd : decide (m0 - (l.length : Int) < 0) = false := decide_eq_false (by omega)
  have hw : IntKind.i64.wrap (m0 - (l.length : Int)) = m0 - l.length := IntWalk.i64_in _ (by omega)
  obtain ⟨M, hM⟩ : ∃ M : Int, m0 - (l.length : Int) = M := ⟨_, rfl⟩
  rw [hM] at hd hw
  have hM1 : 0 ≤ M ∧ M ≤ 1048576 := by omega
  have HI := Lib.hid h
  have HK := Lib.hid hok
  clear h hok
  obtain ⟨N, hN⟩ : ∃ N, l.length = N := ⟨_, rfl⟩
  have HN := Lib.hid hN
  rw [hN] at hbig hM ⊢
  have hlN : N ≤ 1048576 := by omega
  clear hN hlen
  go_enter Tryz.func29, Tryz.ntmps29
  go_wp2_with fail
  go_loopw [1, 5] (fun u i wr => ∃ (k : Nat) (m : Int), i = .int .i64 (k : Int) ∧ u = .int .i64 m ∧ k ≤ N ∧ 0 ≤ m ∧ m ≤ 1048576 ∧ (∀ i, i < k → (gtAt l i).dt.size ≤ 1048576) ∧ Below w.heap.size w wr) (fun _ i _ => N - (intOf i).toNat)
  case atStart => exact ⟨0, M, rfl, rfl, by omega, hM1.1, hM1.2, fun i hi => absurd hi (by omega), Below.refl _ _⟩
  case round =>
   obtain ⟨k, m, rfl, rfl, hk, hm0, hm1, hall, hb⟩ := hrel
   have HA := Lib.hid hall
   clear hall
   by_cases hkn : k < N
   ·have hkl : k < l.length := by have := HN.out; omega
    obtain ⟨b, o, rfl, hlt, hc⟩ := HI.out.at (by omega)
    have HCs := Lib.hid (fun j v hv => (hb.cell (p := ⟨b, _, none⟩) hlt).trans (hc k _ (gtAt_some hkl) j v hv))
    have hg := HK.out k hkl
    have hbs := hb.size
    have hi1 : (0 : Int) ≤ (k : Int) := by omega
    have hi2 : (k : Int) < (N : Int) := by omega
    have HG := Lib.hid hg
    have HA2 := Lib.hid (show (gtAt l k).dt.size ≤ 1048576 → ∀ i, i < k + 1 → (gtAt l i).dt.size ≤ 1048576 from fun h i hi => by
     rcases Nat.lt_or_ge i k with h' | h'
     ·exact HA.out i h'
     ·rw [show i = k by omega]; exact h)
    clear hc hg HA
    generalize gtAt l k = x at *
    have HC := fun W => Lib.hid (szGot_any x m W hm0 hm1 HG.out)
    by_cases hneg : m - x.dt.size < 0
    ·rw [if_pos hneg] at HC
     have e0 : decide ((-1 : Int) < 0) = true := by decide
     go_wp2_with (refine wpList_load_cells rfl 138 (.tmp 20) rfl b (o + k * 3) rfl (gtL x) HCs.out _ Tryz.underlying138 rfl (by kernel_rfl) ?_)
     refine (HC _).out.mono ?_
     rintro e w1 ⟨rfl, h1⟩
     go_wp2_with fail
     go_ret
     exact ⟨-1, rfl, by omega, by omega, fun q => absurd q (by omega), hb.trans (h1.mono hbs)⟩
    ·rw [if_neg hneg] at HC
     have hs := HA2.out (by omega)
     have HA3 := Lib.hid hs
     clear hs HA2
     obtain ⟨m', hm'⟩ : ∃ m' : Int, m - x.dt.size = m' := ⟨_, rfl⟩
     rw [hm'] at HC
     have hm2 : 0 ≤ m' ∧ m' ≤ 1048576 := by omega
     clear hm' hneg
     have e0 : decide (m' < 0) = false := decide_eq_false (by omega)
     go_wp2_with (refine wpList_load_cells rfl 138 (.tmp 20) rfl b (o + k * 3) rfl (gtL x) HCs.out _ Tryz.underlying138 rfl (by kernel_rfl) ?_)
     refine (HC _).out.mono ?_
     rintro e w1 ⟨rfl, h1⟩
     go_wp2_with fail
     go_roundw
     case rel => exact ⟨k + 1, m', by go_num, rfl, by omega, hm2.1, hm2.2, HA3.out, hb.trans (h1.mono hbs)⟩
     case measure => simp [intOf]; omega
   ·have HA2 := Lib.hid (show ∀ i, i < N → (gtAt l i).dt.size ≤ 1048576 from fun i hi => HA.out i (by omega))
    clear HA
    go_wp2_with fail
    go_ret
    exact ⟨m, rfl, by omega, hm1, fun _ => ⟨by omega, HA2.out⟩, hb⟩
set_option maxHeartbeats 1000000 in
theorem toGot_row (x : Gt) (W : World) :
  Calls Tryz.prog 97 #[.agg (gtL x).toArray] W fun e W' => e = .returned (.agg (gtL x).toArray) ∧ Below W.heap.size W W' := by
 obtain ⟨s, p, dt⟩ := x
 unfold gtL
 go_enter Tryz.func97, Tryz.ntmps97
 go_wp2
 exact bodyPost_ret (v := .agg #[.int .i64 s, .int .i64 p, .string dt]) (by simp [results, Tryz.results97, go_sem]) rfl ⟨rfl, (((Below.refl _ _).alloc (Nat.le_refl _) _).alloc (by simp) _).alloc (by simp; omega) _⟩
theorem GotTo.info : (Tryz.prog.info? 144).map (fun i => (i.zero, i.size, i.bytes)) = some (some (.agg #[.int .i64 0, .int .i64 0, .string ByteArray.empty]), 3, 32) := by kernel_rfl
set_option maxRecDepth 100000 in
set_option maxHeartbeats 2000000 in
theorem toGotS_new (a : Option Addr) (cap : Nat) (l : List Gt) (w : World) (h : RsIn gtL 3 w a l) (hlen : l.length ≤ 1048576) :
  Calls Tryz.prog 43 #[.slice a l.length cap] w fun e w' => ∃ a', e = .returned (.slice a' l.length l.length) ∧ RsNew gtL 3 144 w.heap.size w'.heap.size w' a' l ∧ Below w.heap.size w w' := by
 obtain ⟨i0, hi, hz0, hz1, hz2⟩ := info_parts GotTo.info
 obtain ⟨N, hN⟩ : ∃ N, l.length = N := ⟨_, rfl⟩
 have HN := Lib.hid hN
 have HH := Lib.hid h
 rw [hN] at hlen ⊢
 clear hN h
 go_enter Tryz.func43, Tryz.ntmps43
 go_wp2_with (at_make; refine wpList_make_full _ rfl (.tmp 6) (.tmp 6) 46 rfl w.heap.size 144 i0 (.agg #[.int .i64 0, .int .i64 0, .string ByteArray.empty]) 3 Tryz.underlying46 hi hz0 hz1 .i64 .i64 (N : Int) (N : Int) N (by rfl) (by rfl) (by omega) (by omega) (by rw [hz2]; omega) (by unfold maxLen; omega) (Nat.le_refl _) ?_; intro w1 hown hgrow)
 have hb1 : Below w.heap.size w w1 := (Below.refl _ _).grown hgrow (Nat.le_refl _) (fun _ h => by cases h)
 rcases Nat.eq_zero_or_pos N with hN0 | hN0
 ·subst hN0
  have hl : l = [] := List.eq_nil_of_length_eq_zero HN.out
  clear hown hgrow
  refine wp_loop_rounds 1 ?_
  rw [rounds_succ]; go_wp2
  go_ret
  exact ⟨_, rfl, .inl (by first | exact hl | rfl), hb1⟩
 obtain ⟨row0, hg0, hs0⟩ : ∃ row0, w1.heap[w.heap.size]? = some (.cells row0 144 (0, 0)) ∧ row0.size = N * 3 := by
  rcases hown.2 with ⟨h', _⟩ | ⟨g', cap', cur, h', _, hg, _, _, hc, _⟩
  ·simp at h'
  ·simp only [Value.slice.injEq, Option.some.injEq, Addr.mk.injEq, and_true, true_and] at h'
   obtain ⟨rfl, rfl⟩ := h'
   exact ⟨cur, hg, hc⟩
 have HG0 := Lib.hid hg0
 have HS0 := Lib.hid hs0
 clear hown hgrow hg0 hs0
 obtain ⟨b, o, rfl, hlt, hc⟩ := HH.out.at (by have := HN.out; omega)
 have HI := Lib.hid hc
 clear hc HH
 go_loopw [4] (fun i wr => ∃ (k : Nat) (row : Array Value), i = .int .i64 (k : Int) ∧ k ≤ N ∧ Below w.heap.size w wr ∧ wr.heap[w.heap.size]? = some (.cells row 144 (0, 0)) ∧ row.size = N * 3 ∧
  (∀ j, j < k → ∀ c v, (gtL (gtAt l j))[c]? = some v → row[j * 3 + c]? = some v)) (fun i _ => N - (intOf i).toNat)
 case atStart => exact ⟨0, row0, rfl, by omega, hb1, HG0.out, HS0.out, fun j hj => absurd hj (by omega)⟩
 case round =>
  obtain ⟨k, row, rfl, hk, hb, hgr, hrs, hdone⟩ := hrel
  have HD := Lib.hid hdone
  have HR := Lib.hid hgr
  have HRs := Lib.hid hrs
  have hsz : w.heap.size < wr.heap.size := (Array.getElem?_eq_some_iff.1 hgr).1
  clear hdone hgr hrs
  by_cases hkn : k < N
  ·have hkl : k < l.length := by have := HN.out; omega
   have hi1 : (0 : Int) ≤ (k : Int) := by omega
   have hi2 : (k : Int) < (N : Int) := by omega
   have HCs := Lib.hid (fun j v hv => (hb.cell (p := ⟨b, _, none⟩) hlt).trans (HI.out k _ (gtAt_some hkl) j v hv))
   go_wp2_with (refine wpList_load_cells rfl 138 (.tmp 18) rfl b (o + k * 3) rfl (gtL (gtAt l k)) HCs.out _ Tryz.underlying138 rfl (by kernel_rfl) ?_)
   refine (toGot_row _ _).mono ?_
   rintro e w2 ⟨rfl, h2⟩
   have hg2 := (h2.block _ hsz).trans HR.out
   have HG2 := Lib.hid hg2
   clear hg2
   go_wp2_with (refine wpList_put_at rfl 144 (.tmp 21) (.tmp 20) rfl rfl (w.heap.size) (k * 3) rfl (.agg (gtL (gtAt l k)).toArray) rfl (gtL (gtAt l k)).toArray rfl 144 row _ HG2.out (by kernel_rfl) (Nat.ble_eq_true_of_le (by show k * 3 + 3 ≤ row.size; rw [HRs.out]; omega)) (by rfl) rfl ?_; intro w3 g3 o3; have HG3 := Lib.hid g3; have HO3 := Lib.hid o3; clear g3 o3)
   go_roundw
   case rel =>
    refine ⟨k + 1, _, by go_num, by omega, ?_, HG3.out, by rw [setAll_size, HRs.out], fun j hj c v hv => ?_⟩
    ·exact HO3.out.below (hb.trans (h2.mono (Nat.le_of_lt hsz))) (Nat.le_refl _) (Nat.le_trans (Nat.le_of_lt hsz) h2.size)
    ·have hc7 : c < 3 := by
      have := (List.getElem?_eq_some_iff.1 hv).1
      rwa [gtL_len] at this
     rcases Nat.lt_or_ge j k with h | h
     ·rw [setAll_off _ _ _ _ (.inl (by omega))]
      exact HD.out j h c v hv
     ·obtain rfl : j = k := by omega
      exact setAll_at _ _ _ _ _ (by show j * 3 + 3 ≤ row.size; rw [HRs.out]; omega) hv
   case measure => simp [intOf]; omega
  ·have hge : N ≤ k := by omega
   go_wp2_with fail
   go_ret
   exact ⟨_, rfl, .inr ⟨w.heap.size, 0, row, rfl, Nat.le_refl _, hsz, HR.out, by rw [HRs.out, HN.out]; omega, fun i x hx c v hv => by
    have hi : i < l.length := (List.getElem?_eq_some_iff.1 hx).1
    rw [gtAt_some hi] at hx
    obtain rfl := Option.some.inj hx
    rw [Nat.zero_add]
    exact HD.out i (by have := HN.out; omega) c v hv⟩, hb⟩
set_option maxHeartbeats 1000000 in
theorem eqGot_row (x : Gt) (W : World) :
  Calls Tryz.prog 112 #[.agg (gtL x).toArray, .agg (gtL x).toArray] W fun e W' => e = .returned (.bool true) ∧ Below W.heap.size W W' := by
 obtain ⟨s, p, dt⟩ := x
 unfold gtL
 go_enter Tryz.func112, Tryz.ntmps112
 go_wp2
 go_ret
 exact ⟨rfl, ((Below.refl _ _).alloc (Nat.le_refl _) _).alloc (by simp) _⟩
set_option maxRecDepth 100000 in
set_option maxHeartbeats 2000000 in
theorem eqGotS_same (a a' : Option Addr) (cap cap' : Nat) (l : List Gt) (w : World) (h : RsIn gtL 3 w a l) (h' : RsIn gtL 3 w a' l) (hlen : l.length ≤ 1048576) :
  Calls Tryz.prog 55 #[.slice a l.length cap, .slice a' l.length cap'] w fun e w' => e = .returned (.bool true) ∧ Below w.heap.size w w' := by
 obtain ⟨N, hN⟩ : ∃ N, l.length = N := ⟨_, rfl⟩
 have HN := Lib.hid hN
 have HI := Lib.hid h
 have HI' := Lib.hid h'
 rw [hN] at hlen ⊢
 clear hN h h'
 go_enter Tryz.func55, Tryz.ntmps55
 go_wp2_with fail
 go_loopw [5] (fun i wr => ∃ k : Nat, i = .int .i64 (k : Int) ∧ k ≤ N ∧ Below w.heap.size w wr) (fun i _ => N - (intOf i).toNat)
 case atStart => exact ⟨0, rfl, by omega, Below.refl _ _⟩
 case round =>
  obtain ⟨k, rfl, hk, hb⟩ := hrel
  by_cases hkn : k < N
  ·have hkl : k < l.length := by have := HN.out; omega
   have hi1 : (0 : Int) ≤ (k : Int) := by omega
   have hi2 : (k : Int) < (N : Int) := by omega
   obtain ⟨b, o, rfl, hlt, hc⟩ := HI.out.at (by omega)
   obtain ⟨b', o', rfl, hlt', hc'⟩ := HI'.out.at (by omega)
   have lB : b < wr.heap.size := Nat.lt_of_lt_of_le hlt hb.size
   have lB' : b' < wr.heap.size := Nat.lt_of_lt_of_le hlt' hb.size
   have HC := Lib.hid (fun j v hv => (hb.cell (p := ⟨b, _, none⟩) hlt).trans (hc k _ (gtAt_some hkl) j v hv))
   have HC' := Lib.hid (fun j v hv => (hb.cell (p := ⟨b', _, none⟩) hlt').trans (hc' k _ (gtAt_some hkl) j v hv))
   clear hc hc'
   generalize gtAt l k = x at *
   go_wp2_with fail
   refine wp_region_quiet (C := fun W => Below wr.heap.size wr W) (by kernel_rfl) (by kernel_rfl) (Below.refl _ _).drew ?_
   dsimp only
   iterate 3 (go_big_quiet_want; go_big_quiet_op; first | go_big_quiet_on | (refine ⟨_, fun _ _ => rfl, ?_⟩; go_big_quiet_on))
   go_big_quiet_want; refine ⟨.agg (gtL x).toArray, fun W hW => (quietLoadCells 144 (.tmp 19) rfl b (o + k * 3) rfl (gtL x) (grownCells lB HC.out hW) _ Tryz.underlying144 rfl (by kernel_rfl)), ?_⟩; simp only [Act.put, List.setIfInBounds_toArray, List.set_cons_zero, List.set_cons_succ]; go_big_quiet_on
   iterate 3 (go_big_quiet_want; go_big_quiet_op; first | go_big_quiet_on | (refine ⟨_, fun _ _ => rfl, ?_⟩; go_big_quiet_on))
   go_big_quiet_want; refine ⟨.agg (gtL x).toArray, fun W hW => (quietLoadCells 144 (.tmp 23) rfl b' (o' + k * 3) rfl (gtL x) (grownCells lB' HC'.out hW) _ Tryz.underlying144 rfl (by kernel_rfl)), ?_⟩; simp only [Act.put, List.setIfInBounds_toArray, List.set_cons_zero, List.set_cons_succ]; go_big_quiet_on
   go_big_quiet_want; go_big_quiet_op; refine ⟨_, fun W hW => quietCall hW (eqGot_row x W), ?_⟩; go_big_quiet_on
   go_big_quiet_want; go_big_quiet_op; first | go_big_quiet_on | (refine ⟨_, fun _ _ => rfl, ?_⟩; go_big_quiet_on)
   refine wpQuiet_nil ?_
   intro X hX
   go_wp2_with fail
   go_roundw
   case rel => exact ⟨k + 1, by go_num, by omega, hb.trans (hX.mono hb.size)⟩
   case measure => simp [intOf]; omega
  ·go_wp2_with fail
   go_ret
   exact ⟨rfl, hb⟩
def markGt (q : Nat) : Gt := ⟨((q : Nat) : Int), ((q + 1 : Nat) : Int), markT (q + 2)⟩
def marksGt (k m : Nat) : List Gt := (List.range m).map fun i => markGt (k + 3 * i)
theorem marksGt_length (k m : Nat) : (marksGt k m).length = m := by simp [marksGt]
theorem marksGt_at {k m i : Nat} {x : Gt} (h : (marksGt k m)[i]? = some x) : i < m ∧ x = markGt (k + 3 * i) := by
 unfold marksGt at h
 rw [List.getElem?_map] at h
 obtain ⟨j, hj, rfl⟩ := Option.map_eq_some_iff.1 h
 obtain ⟨hi, rfl⟩ := List.getElem?_eq_some_iff.1 hj
 have hi' : i < m := by simpa using hi
 simp [hi']
theorem marksGt_get {k m i : Nat} (h : i < m) : (marksGt k m)[i]? = some (markGt (k + 3 * i)) := by
 unfold marksGt
 rw [List.getElem?_map, List.getElem?_range h]
 rfl
set_option maxRecDepth 100000 in
set_option maxHeartbeats 8000000 in
theorem markGotS_any {lo hi : Nat} (a : Option Addr) (cap : Nat) (l : List Gt) (k : Nat) (w : World) (h : RsNew gtL 3 144 lo hi w a l) (hk0 : 0 < k) (hk : k + 3 * l.length ≤ 30000000) :
  Calls Tryz.prog 61 #[.slice a l.length cap, .int .i64 (k : Int)] w fun e w' => e = .returned (.int .i64 ((k + 3 * l.length : Nat) : Int)) ∧ RsNew gtL 3 144 lo hi w' a (marksGt k l.length) ∧ Out lo hi w w' := by
 obtain ⟨N, hN⟩ : ∃ N, l.length = N := ⟨_, rfl⟩
 have HN := Lib.hid hN
 rcases Nat.eq_zero_or_pos N with hN0 | hN0
 ·rw [hN]
  subst hN0
  clear hN h
  go_enter Tryz.func61, Tryz.ntmps61
  go_wp2
  refine wp_loop_rounds 1 ?_
  rw [rounds_succ]; go_wp2
  go_ret
  exact ⟨rfl, .inl (by first | rfl | (simp [marksGt])), Out.refl _ _ _⟩
 obtain ⟨b, o, row0, rfl, hlo, hhi, hg0, hs0⟩ : ∃ b o row, a = some ⟨b, o, none⟩ ∧ lo ≤ b ∧ b < hi ∧ w.heap[b]? = some (.cells row 144 (0, 0)) ∧ o + N * 3 ≤ row.size := by
  rcases h with h | ⟨b, o, row, h1, h2, h3, h4, h5, h6⟩
  ·rw [h] at hN
   simp at hN
   omega
  ·rw [hN] at h5
   exact ⟨b, o, row, h1, h2, h3, h4, h5⟩
 have HG0 := Lib.hid hg0
 have hN8 : N ≤ 30000000 := by omega
 have HS0 := Lib.hid hs0
 rw [hN] at hk ⊢
 clear hN h hg0 hs0
 go_enter Tryz.func61, Tryz.ntmps61
 go_wp2_with fail
 go_loopw [1, 5] (fun u i wr => ∃ (m : Nat) (row : Array Value), i = .int .i64 (m : Int) ∧ u = .int .i64 ((k + 3 * m : Nat) : Int) ∧ m ≤ N ∧ Out lo hi w wr ∧ wr.heap[b]? = some (.cells row 144 (0, 0)) ∧ o + N * 3 ≤ row.size ∧
  (∀ j, j < m → ∀ c v, (gtL (markGt (k + 3 * j)))[c]? = some v → row[o + j * 3 + c]? = some v)) (fun _ i _ => N - (intOf i).toNat)
 case atStart => exact ⟨0, row0, rfl, rfl, by omega, Out.refl _ _ _, HG0.out, HS0.out, fun j hj => absurd hj (by omega)⟩
 case round =>
  obtain ⟨m, row, rfl, rfl, hm, hb, hgr, hrs, hdone⟩ := hrel
  have HD := Lib.hid hdone
  have HA := Lib.hid hgr
  have HB := Lib.hid hb
  have HRS := Lib.hid hrs
  clear hdone hgr hb HG0 HS0
  by_cases hmn : m < N
  ·have hi1 : (0 : Int) ≤ (m : Int) := by omega
   have hi2 : (m : Int) < (N : Int) := by omega
   have hq : k + 3 * m + 3 ≤ 30000000 := by omega
   have hroom : o + m * 3 + 3 ≤ row.size := by omega
   have HK := Lib.hid (show k + 3 * (m + 1) = k + 3 * m + 3 by omega)
   obtain ⟨q, eq⟩ : ∃ q, k + 3 * m = q := ⟨_, rfl⟩
   have hq0 : 0 < q := by omega
   have HQ := Lib.hid eq
   rw [eq] at hq HK ⊢
   clear eq
   have HM := fun W => Lib.hid (markText_any (q + 2) W (by omega) (by omega))
   have w0_ : IntKind.i64.wrap (((q : Nat) : Int) + 1) = ((q + 1 : Nat) : Int) := by rw [IntWalk.i64_in _ (by omega)]; omega
   have w1_ : IntKind.i64.wrap (((q + 1 : Nat) : Int) + 1) = ((q + 2 : Nat) : Int) := by rw [IntWalk.i64_in _ (by omega)]; omega
   have w2_ : IntKind.i64.wrap (((q + 2 : Nat) : Int) + 1) = ((q + 3 : Nat) : Int) := by rw [IntWalk.i64_in _ (by omega)]; omega
   generalize e1_ : q + 1 = q1 at *
   generalize e2_ : q + 2 = q2 at *
   generalize e3_ : q + 3 = q3 at *
   obtain ⟨tx, etx⟩ : ∃ tx, markT q2 = tx := ⟨_, rfl⟩
   rw [etx] at HM
   have HTX := Lib.hid etx
   clear etx
   obtain ⟨p0, ep0⟩ : ∃ p, o + m * 3 = p := ⟨_, rfl⟩
   have HP := Lib.hid ep0
   obtain ⟨r1, er1⟩ : ∃ r, setAll row (p0) [.int .i64 (q : Int)] = r := ⟨_, rfl⟩
   have sr1 : r1.size = row.size := by rw [← er1, setAll_size]
   obtain ⟨r2, er2⟩ : ∃ r, setAll r1 (p0 + 1) [.int .i64 (q1 : Int)] = r := ⟨_, rfl⟩
   have sr2 : r2.size = row.size := by rw [← er2, setAll_size, sr1]
   obtain ⟨r3, er3⟩ : ∃ r, setAll r2 (p0 + 2) [.string tx] = r := ⟨_, rfl⟩
   have sr3 : r3.size = row.size := by rw [← er3, setAll_size, sr2]
   have HER := Lib.hid (And.intro er1 (And.intro er2 er3))
   rw [ep0] at hroom
   have k0 : Nat.ble (p0 + 1) row.size = true := Nat.ble_eq_true_of_le (by omega)
   have k1 : Nat.ble (p0 + 1 + 1) r1.size = true := Nat.ble_eq_true_of_le (by omega)
   have k2 : Nat.ble (p0 + 2 + 1) r2.size = true := Nat.ble_eq_true_of_le (by omega)
   have HE := Lib.hid (And.intro e1_ (And.intro e2_ e3_))
   clear er1 er2 er3 e1_ e2_ e3_ hrs hk hroom hq sr1 sr2
   clear ep0
   go_wp2_with (first
    | (refine wpList_put_at rfl 2 (.tmp 16) (.tmp 14) rfl rfl b (o + m * 3) rfl (.int .i64 (q : Int)) rfl #[.int .i64 (q : Int)] rfl 144 row r1 HA.out (by kernel_rfl) (by rw [HP.out]; exact k0) rfl (by rw [HP.out]; exact HER.out.1) ?_; intro x1 g0 o0; have HA1 := Lib.hid g0; have HB1 := Lib.hid (HB.out.trans (o0.widen hlo hhi)); clear g0 o0)
    | (refine wpList_put_at rfl 2 (.tmp 23) (.tmp 21) rfl rfl b (o + m * 3 + 1) rfl (.int .i64 (q1 : Int)) rfl #[.int .i64 (q1 : Int)] rfl 144 r1 r2 HA1.out (by kernel_rfl) (by rw [HP.out]; exact k1) rfl (by rw [HP.out]; exact HER.out.2.1) ?_; intro x2 g1 o1; have HA2 := Lib.hid g1; have HB2 := Lib.hid (HB1.out.trans (o1.widen hlo hhi)); clear g1 o1))
   refine (HM _).out.mono ?_
   rintro e x2b ⟨rfl, h5⟩
   have HA2b := Lib.hid ((h5.block b (Array.getElem?_eq_some_iff.1 HA2.out).1).trans HA2.out)
   have HB2b := Lib.hid (HB2.out.trans (Out.of_below h5))
   clear h5 HA HB HA1 HB1 HA2 HB2
   go_wp2_with (first
    | (refine wpList_put_at rfl 9 (.tmp 31) (.tmp 29) rfl rfl b (o + m * 3 + 2) rfl (.string tx) rfl #[.string tx] rfl 144 r2 r3 HA2b.out (by kernel_rfl) (by rw [HP.out]; exact k2) rfl (by rw [HP.out]; exact HER.out.2.2) ?_; intro x3 g2 o2; have HA3 := Lib.hid g2; have HB3 := Lib.hid (HB2b.out.trans (o2.widen hlo hhi)); clear g2 o2))
   go_roundw
   case rel =>
    refine ⟨m + 1, r3, by go_num, by rw [HK.out], by omega, HB3.out, HA3.out, by rw [sr3]; exact HRS.out, fun j hj c v hv => ?_⟩
    obtain ⟨E1, E2, E3⟩ := HER.out
    obtain ⟨F1, F2, F3⟩ := HE.out
    have hp := HP.out
    have hrs2 := HRS.out
    have hc7 : c < 3 := by
     have := (List.getElem?_eq_some_iff.1 hv).1
     rwa [gtL_len] at this
    rcases Nat.lt_or_ge j m with h | h
    ·have hlt : o + j * 3 + c < p0 := by omega
     rw [← E3, setAll_off _ _ _ _ (.inl (by omega)), ← E2, setAll_off _ _ _ _ (.inl (by omega)), ← E1, setAll_off _ _ _ _ (.inl (by omega))]
     exact HD.out j h c v hv
    ·obtain rfl : j = m := by omega
     rw [HQ.out] at hv
     unfold markGt gtL at hv
     dsimp only at hv
     rw [F1, F2, HTX.out] at hv
     rw [hp]
     have z : ∀ (rr : Array Value) (p : Nat) (u : Value), p < rr.size → (setAll rr p [u])[p]? = some u := fun rr p u hp => by
      have := setAll_at [u] rr p 0 u (by show p + 1 ≤ _; omega) rfl
      simpa using this
     have y : ∀ (rr : Array Value) (p p' : Nat) (u : Value), p' < p → (setAll rr p [u])[p']? = rr[p']? := fun rr p p' u hp => setAll_off _ _ _ _ (.inl hp)
     rcases c with _ | _ | _ | c
     ·simp at hv
      subst hv
      rw [← E3, y _ _ _ _ (by omega), ← E2, y _ _ _ _ (by omega), ← E1]
      exact z _ _ _ (by have a0 := congrArg Array.size E1; have a1 := congrArg Array.size E2; have a2 := congrArg Array.size E3; rw [setAll_size] at a0 a1 a2; omega)
     ·simp at hv
      subst hv
      rw [← E3, y _ _ _ _ (by omega), ← E2]
      exact z _ _ _ (by have a0 := congrArg Array.size E1; have a1 := congrArg Array.size E2; have a2 := congrArg Array.size E3; rw [setAll_size] at a0 a1 a2; omega)
     ·simp at hv
      subst hv
      rw [← E3]
      exact z _ _ _ (by have a0 := congrArg Array.size E1; have a1 := congrArg Array.size E2; have a2 := congrArg Array.size E3; rw [setAll_size] at a0 a1 a2; omega)
     ·omega
   case measure => simp [intOf]; omega
  ·have hge : N ≤ m := by omega
   go_wp2_with fail
   go_ret
   refine ⟨by rw [show N = m by omega]; rfl, .inr ⟨b, o, row, rfl, hlo, hhi, HA.out, by rw [marksGt_length]; exact HRS.out, fun i x hx c v hv => ?_⟩, HB.out⟩
   obtain ⟨hi', rfl⟩ := marksGt_at hx
   exact HD.out i (by omega) c v hv
set_option maxRecDepth 100000 in
set_option maxHeartbeats 8000000 in
theorem heldGotS_any {lo hi : Nat} (a : Option Addr) (cap : Nat) (N : Nat) (k : Nat) (w : World) (h : RsNew gtL 3 144 lo hi w a (marksGt k N)) (hk0 : 0 < k) (hk : k + 3 * N ≤ 30000000) :
  Calls Tryz.prog 120 #[.slice a N cap, .int .i64 (k : Int)] w fun e w' => e = .returned (.int .i64 ((k + 3 * N : Nat) : Int)) ∧ Below w.heap.size w w' := by
 have HI := Lib.hid h
 have hN8 : N ≤ 30000000 := by omega
 clear h
 go_enter Tryz.func120, Tryz.ntmps120
 go_wp2_with fail
 go_loopw [1, 5] (fun u i wr => ∃ m : Nat, i = .int .i64 (m : Int) ∧ u = .int .i64 ((k + 3 * m : Nat) : Int) ∧ m ≤ N ∧ Below w.heap.size w wr) (fun _ i _ => N - (intOf i).toNat)
 case atStart => exact ⟨0, rfl, rfl, by omega, Below.refl _ _⟩
 case round =>
  obtain ⟨m, rfl, rfl, hm, hb⟩ := hrel
  by_cases hmn : m < N
  ·obtain ⟨b, o, row, rfl, _, _, hg, _, hc⟩ : ∃ b o row, a = some ⟨b, o, none⟩ ∧ lo ≤ b ∧ b < hi ∧ w.heap[b]? = some (.cells row 144 (0, 0)) ∧ o + (marksGt k N).length * 3 ≤ row.size ∧ ∀ (i : Nat) x, (marksGt k N)[i]? = some x → ∀ (j : Nat) v, (gtL x)[j]? = some v → row[o + i * 3 + j]? = some v := by
    rcases HI.out with h | h
    ·have := marksGt_length k N
     rw [h] at this
     simp at this
     omega
    ·exact h
   have hx := hc m _ (marksGt_get hmn)
   have hgw := (hb.block b (Array.getElem?_eq_some_iff.1 hg).1).trans hg
   have HG := Lib.hid hgw
   have hi1 : (0 : Int) ≤ (m : Int) := by omega
   have hi2 : (m : Int) < (N : Int) := by omega
   have HK := Lib.hid (show k + 3 * (m + 1) = k + 3 * m + 3 by omega)
   have hq : k + 3 * m + 3 ≤ 30000000 := by omega
   obtain ⟨q, eq⟩ : ∃ q, k + 3 * m = q := ⟨_, rfl⟩
   have hq0 : 0 < q := by omega
   rw [eq] at hq HK hx ⊢
   unfold markGt gtL at hx
   dsimp only at hx
   have c0 := hx 0 _ rfl
   have c1 := hx 1 _ rfl
   have c2 := hx 2 _ rfl
   have HM := fun W => Lib.hid (markText_any (q + 2) W (by omega) (by omega))
   have w0_ : IntKind.i64.wrap (((q : Nat) : Int) + 1) = ((q + 1 : Nat) : Int) := by rw [IntWalk.i64_in _ (by omega)]; omega
   have w1_ : IntKind.i64.wrap (((q + 1 : Nat) : Int) + 1) = ((q + 2 : Nat) : Int) := by rw [IntWalk.i64_in _ (by omega)]; omega
   have w2_ : IntKind.i64.wrap (((q + 2 : Nat) : Int) + 1) = ((q + 3 : Nat) : Int) := by rw [IntWalk.i64_in _ (by omega)]; omega
   clear hx hc hg hgw hk hq hq0 eq
   rw [Nat.add_zero] at c0
   generalize q + 1 = q1 at *
   generalize q + 2 = q2 at *
   generalize q + 3 = q3 at *
   have n0 : ((q : Int) != (q : Int)) = false := by simp
   have n1 : ((q1 : Int) != (q1 : Int)) = false := by simp
   obtain ⟨tx, etx⟩ : ∃ tx, markT q2 = tx := ⟨_, rfl⟩
   rw [etx] at HM c2
   clear etx
   go_wp2_with (first
    | (refine wpList_load_one rfl 2 (.tmp 15) rfl b (o + m * 3) rfl 144 row (0, 0) HG.out _ c0 _ Tryz.underlying2 rfl (by kernel_rfl) ?_)
    | (refine wpList_load_one rfl 2 (.tmp 24) rfl b (o + m * 3 + 1) rfl 144 row (0, 0) HG.out _ c1 _ Tryz.underlying2 rfl (by kernel_rfl) ?_))
   refine wp_region_quiet (C := fun W => Below wr.heap.size wr W) (by kernel_rfl) (by kernel_rfl) (Below.refl _ _).drew ?_
   dsimp only
   iterate 4 (go_big_quiet_want; go_big_quiet_op; first | go_big_quiet_on | (refine ⟨_, fun _ _ => rfl, ?_⟩; go_big_quiet_on))
   go_big_quiet_want; refine ⟨.string tx, fun W hW => (quietLoadOne 9 (.tmp 33) rfl b (o + m * 3 + 2) rfl _ (rowCells HG.out hW _ _ c2) _ Tryz.underlying9 rfl), ?_⟩; simp only [Act.put, List.setIfInBounds_toArray, List.set_cons_zero, List.set_cons_succ]; go_big_quiet_on
   go_big_quiet_want; go_big_quiet_op; first | go_big_quiet_on | (refine ⟨_, fun _ _ => rfl, ?_⟩; go_big_quiet_on)
   go_big_quiet_want; go_big_quiet_op; refine ⟨_, fun W hW => quietCall hW (HM W).out, ?_⟩; go_big_quiet_on
   go_big_quiet_want; go_big_quiet_op; first | go_big_quiet_on | (refine ⟨_, fun _ _ => rfl, ?_⟩; go_big_quiet_on)
   refine wpQuiet_nil ?_
   intro X hX
   go_wp2_with fail
   go_roundw
   case rel => exact ⟨m + 1, by go_num, by rw [HK.out], by omega, hb.trans (hX.mono hb.size)⟩
   case measure => simp [intOf]; omega
  ·have hge : N ≤ m := by omega
   go_wp2_with fail
   go_ret
   exact ⟨by rw [show N = m by omega]; rfl, hb⟩
end Go.Proofs.YtioldepgoodipaaGreat
namespace Go.Proofs.YtioldepgoodipaaGreat
open Go.RowKit Go.ChangeShapes Go.WideShapes Go.ChangeAt Go.Joins
set_option linter.unusedVariables false
section
variable {H : Type} {enc : TypeId × Value → H} {w : World} {base : Nat} {spare : Nat → Bool} {held : Bool} {b0 : Nat} {r : Reach} {v : Value} {d : DataW H} {ps : List MemPlace}
def GtOk (x : Gt) : Prop := I64 x.s ∧ I64 x.p ∧ x.dt.size ≤ maxLen
def IsGts (w : World) (v : Value) : Prop := ∃ (a : Option Addr) (cap : Nat) (l : List Gt), v = .slice a l.length cap ∧ RsIn gtL 3 w a l ∧ (∀ x ∈ l, GtOk x) ∧ l.length ≤ maxLen
theorem cells_rowGt : Tryz.prog.cellsOf 138 = 3 := by kernel_rfl
theorem cells_strGt : Tryz.prog.cellsOf 9 = 1 := by kernel_rfl
theorem cells_intGt : Tryz.prog.cellsOf 2 = 1 := by kernel_rfl
theorem list_Gt {α : Type} {l : List α} (h : l.length = 3) : ∃ x0 x1 x2, l = [x0, x1, x2] := by
 match l, h with
 | [x0, x1, x2], _ => exact ⟨x0, x1, x2, rfl⟩
set_option maxRecDepth 100000 in
theorem Gt_of_trod {fuel : Nat} {cs : List Value} {x : DataW H × List MemPlace} (hl : cs.length = 3) (hf : DataW.trod enc Tryz.prog w base spare held fuel 138 cs = some x) :
  ∃ y : Gt, cs = gtL y ∧ GtOk y := by
 obtain ⟨c0, c1, c2, rfl⟩ := list_Gt hl
 obtain ⟨xs, n, _, _, _, hlen, hall⟩ := DataW.trod_struct Tryz.underlying138 hf
 obtain ⟨y0, y1, y2, rfl⟩ := list_Gt (by simpa using hlen)
 have h0 := hall 0 _ rfl
 have h1 := hall 1 _ rfl
 have h2 := hall 2 _ rfl
 clear hall hf hlen
 obtain ⟨a0, e0, _, w0⟩ := DataW.trod_int Tryz.underlying2 h0
 obtain ⟨a1, e1, _, w1⟩ := DataW.trod_int Tryz.underlying2 h1
 obtain ⟨a2, e2, _, w2⟩ := DataW.trod_string Tryz.underlying9 h2
 simp [cells_intGt, cells_strGt] at e0 e1 e2
 subst e0 e1 e2
 exact ⟨⟨a0, a1, a2⟩, rfl, I64.of_wf w0, I64.of_wf w1, w2⟩
set_option maxRecDepth 100000 in
theorem Gts_of_trod {fuel : Nat} {cs : List Value} {x : DataW H × List MemPlace} (hf : DataW.trod enc Tryz.prog w base spare held fuel 32 cs = some x) :
  ∃ (a : Option Addr) (cap : Nat) (l : List Gt), cs = [.slice a l.length cap] ∧ RsIn gtL 3 w a l ∧ (∀ x ∈ l, GtOk x) ∧ l.length ≤ maxLen := by
 rcases DataW.trod_slice Tryz.underlying32 hf with ⟨hcs, _⟩ | ⟨a', len', cap', elems, rest, n, _, hcs, _, hb, hl, hm, hlen, hel, _, _⟩
 ·subst hcs
  exact ⟨none, 0, [], rfl, .inl rfl, (by intro x hx; cases hx), by simp⟩
 ·subst hcs
  have each : ∀ i, i < len' → ∃ x : Gt, GtOk x ∧ a'.block < w.heap.size ∧ ∀ (j : Nat) v, (gtL x)[j]? = some v → w.cell? ((a'.add (i * 3)).add j) = some v := by
   intro i hi
   have := hel i hi
   rw [List.getElem?_eq_getElem (by omega), Option.bind_eq_some_iff, cells_rowGt] at this
   obtain ⟨cs', hcs, hy⟩ := this
   have hbk := World.cells?_block hcs (by omega)
   obtain ⟨_, hl2, hq⟩ := World.cells?_some hcs
   obtain ⟨x, rfl, hx⟩ := Gt_of_trod hl2 hy
   refine ⟨x, hx, ?_, fun j v hv => ?_⟩
   ·have : (a'.add (i * 3)).block = a'.block := by unfold Addr.add; split <;> rfl
    rwa [this] at hbk
   ·have hj := (List.getElem?_eq_some_iff.1 hv).1
    rw [hl2] at hj
    have := hq j hj
    rwa [hv] at this
  obtain ⟨l, hl, hp⟩ := list_of len' each
  subst hl
  refine ⟨some a', cap', l, rfl, ?_, ?_, by omega⟩
  ·rcases l with _ | ⟨x0, l⟩
   ·exact .inl rfl
   right
   have h0 := hp 0 x0 rfl
   obtain ⟨b, o, sp⟩ := a'
   have hsp : sp = none := by simpa [Addr.add] using World.cell?_spot (h0.2.2 0 _ rfl)
   subst hsp
   have hadd : ∀ b o i, (⟨b, o, none⟩ : Addr).add i = ⟨b, o + i, none⟩ := fun b o i => by unfold Addr.add; split <;> simp_all
   refine ⟨b, o, rfl, h0.2.1, fun i x hx j v hv => ?_⟩
   have := (hp i x hx).2.2 j v hv
   rwa [hadd, hadd] at this
  ·intro x hx
   obtain ⟨i, hi⟩ := List.getElem?_of_mem hx
   exact (hp i x hi).1
end
end Go.Proofs.YtioldepgoodipaaGreat
namespace Go.Proofs.YtioldepgoodipaaGreat
open Go.RowKit
set_option linter.unusedVariables false

def NewIn (lo hi : Nat) (w : World) (a : Option Addr) (l : List (Int × ByteArray)) : Prop :=
 l = [] ∨ ∃ b o, a = some ⟨b, o, none⟩ ∧ lo ≤ b ∧ b < hi ∧ b < w.heap.size ∧ (∀ j, j < l.length * 2 → w.frozen? ⟨b, o + j, none⟩ = false) ∧ ∀ (i : Nat) x, l[i]? = some x → w.cell? ⟨b, o + i * 2, none⟩ = some (.int .i64 x.1) ∧ w.cell? ⟨b, o + i * 2 + 1, none⟩ = some (.string x.2)
section
variable {lo hi lo' hi' B : Nat} {w w' : World} {a : Option Addr} {l : List (Int × ByteArray)}
theorem NewIn.cans (h : NewIn lo hi w a l) : CansIn w a l := by
 rcases h with h | ⟨b, o, rfl, _, _, hlt, _, hc⟩
 ·exact .inl h
 ·exact .inr ⟨b, o, rfl, hlt, hc⟩
theorem NewIn.wide (h : NewIn lo hi w a l) (h1 : lo' ≤ lo) (h2 : hi ≤ hi') : NewIn lo' hi' w a l := by
 rcases h with h | ⟨b, o, rfl, h3, h4, hlt, hf, hc⟩
 ·exact .inl h
 ·exact .inr ⟨b, o, rfl, by omega, by omega, hlt, hf, hc⟩
theorem NewIn.out (h : NewIn lo hi w a l) (ho : Out lo' hi' w w') (hd : hi ≤ lo' ∨ hi' ≤ lo) : NewIn lo hi w' a l := by
 rcases h with h | ⟨b, o, rfl, h3, h4, hlt, hf, hc⟩
 ·exact .inl h
 ·have hx : b < lo' ∨ hi' ≤ b := by omega
  exact .inr ⟨b, o, rfl, h3, h4, Nat.lt_of_lt_of_le hlt ho.size, fun j hj => (ho.frozen (p := ⟨b, _, none⟩) hlt hx).trans (hf j hj),
   fun i x hi => ⟨(ho.cell (p := ⟨b, _, none⟩) hlt hx).trans (hc i x hi).1, (ho.cell (p := ⟨b, _, none⟩) hlt hx).trans (hc i x hi).2⟩⟩
theorem NewIn.kept (h : NewIn lo hi w a l) (hb : Below w.heap.size w w') : NewIn lo hi w' a l := by
 rcases h with h | ⟨b, o, rfl, h3, h4, hlt, hf, hc⟩
 ·exact .inl h
 ·exact .inr ⟨b, o, rfl, h3, h4, Nat.lt_of_lt_of_le hlt hb.size, fun j hj => (hb.frozen (p := ⟨b, _, none⟩) hlt).trans (hf j hj),
   fun i x hi => ⟨(hb.cell (p := ⟨b, _, none⟩) hlt).trans (hc i x hi).1, (hb.cell (p := ⟨b, _, none⟩) hlt).trans (hc i x hi).2⟩⟩
end

def ccells : List (Int × ByteArray) → List Value
 | [] => []
 | x :: l => .int .i64 x.1 :: .string x.2 :: ccells l
theorem ccells_length (l : List (Int × ByteArray)) : (ccells l).length = l.length * 2 := by
 induction l with
 | nil => rfl
 | cons x l ih => simp [ccells, ih]; omega
theorem ccells_append (l m : List (Int × ByteArray)) : ccells (l ++ m) = ccells l ++ ccells m := by
 induction l with
 | nil => rfl
 | cons x l ih => simp [ccells, ih]
theorem ccells_one (l : List (Int × ByteArray)) : ∀ u ∈ ccells l, u.oneCell' = true := by
 induction l with
 | nil => intro u hu; cases hu
 | cons x l ih =>
  intro u hu
  simp [ccells] at hu
  rcases hu with rfl | rfl | hu
  ·rfl
  ·rfl
  ·exact ih u hu
theorem ccells_at (l : List (Int × ByteArray)) : ∀ (i : Nat) x, l[i]? = some x → (ccells l)[i * 2]? = some (.int .i64 x.1) ∧ (ccells l)[i * 2 + 1]? = some (.string x.2) := by
 induction l with
 | nil => intro i x h; simp at h
 | cons y l ih =>
  intro i x h
  rcases i with _ | i
  ·simp at h
   subst h
   simp [ccells]
  ·simp at h
   have := ih i x h
   rw [show (i + 1) * 2 = i * 2 + 1 + 1 by omega]
   simpa [ccells] using this
theorem ccells_back (l : List (Int × ByteArray)) : ∀ (j : Nat) u, (ccells l)[j]? = some u → ∃ i x, l[i]? = some x ∧ ((j = i * 2 ∧ u = .int .i64 x.1) ∨ (j = i * 2 + 1 ∧ u = .string x.2)) := by
 induction l with
 | nil => intro j u h; simp [ccells] at h
 | cons y l ih =>
  intro j u h
  rcases j with _ | _ | j
  ·simp [ccells] at h
   exact ⟨0, y, rfl, .inl ⟨rfl, h.symm⟩⟩
  ·simp [ccells] at h
   exact ⟨0, y, rfl, .inr ⟨rfl, h.symm⟩⟩
  ·simp [ccells] at h
   obtain ⟨i, x, hx, ⟨rfl, h1⟩ | ⟨rfl, h1⟩⟩ := ih j u h
   ·exact ⟨i + 1, x, by simpa using hx, .inl ⟨by omega, h1⟩⟩
   ·exact ⟨i + 1, x, by simpa using hx, .inr ⟨by omega, h1⟩⟩
theorem cans_cells {w : World} {b o : Nat} {l : List (Int × ByteArray)} (hc : ∀ (i : Nat) x, l[i]? = some x → w.cell? ⟨b, o + i * 2, none⟩ = some (.int .i64 x.1) ∧ w.cell? ⟨b, o + i * 2 + 1, none⟩ = some (.string x.2)) :
  ∀ j u, (ccells l)[j]? = some u → w.cell? ((⟨b, o, none⟩ : Addr).add j) = some u := by
 intro j u h
 have e : (⟨b, o, none⟩ : Addr).add j = ⟨b, o + j, none⟩ := by unfold Addr.add; split <;> simp_all
 rw [e]
 obtain ⟨i, x, hx, ⟨rfl, rfl⟩ | ⟨rfl, rfl⟩⟩ := ccells_back l j u h
 ·exact (hc i x hx).1
 ·exact (hc i x hx).2
theorem NewIn.of_owns {w : World} {base : Nat} {e : TypeId} {v : Value} {l : List (Int × ByteArray)} (h : w.ownsRow base e 2 v l.length (ccells l)) : ∃ a cap, v = .slice a l.length cap ∧ l.length ≤ cap ∧ NewIn base w.heap.size w a l := by
 have h' := h
 rcases h.2 with ⟨rfl, hn⟩ | ⟨g, cap, cur, rfl, hb, hh, hcap, hm, hsz, ht⟩
 ·have : l = [] := List.eq_nil_of_length_eq_zero hn
  subst this
  exact ⟨none, 0, rfl, Nat.le_refl _, .inl rfl⟩
 ·have hlt := (World.ownsRow.lt h' g rfl).2
  refine ⟨some ⟨g, 0, none⟩, cap, rfl, hcap, .inr ⟨g, 0, rfl, hb, hlt, hlt, fun j hj => World.ownsRow.frozenAt h' _, fun i x hx => ?_⟩⟩
  have hi : i < l.length := (List.getElem?_eq_some_iff.1 hx).1
  have hc := ccells_at l i x hx
  rw [Nat.zero_add]
  exact ⟨(World.ownsRow.cellAt h' _ (by omega)).trans hc.1, (World.ownsRow.cellAt h' _ (by omega)).trans hc.2⟩
end Go.Proofs.YtioldepgoodipaaGreat
namespace Go.Proofs.YtioldepgoodipaaGreat
open Go.RowKit
set_option linter.unusedVariables false

theorem heap_next (w : World) (o o2 : Obj) : ((w.alloc o).alloc o2).heap[w.heap.size + 1]? = some o2 := by
 have := heap_alloc_new (w.alloc o) o2
 simpa using this

set_option maxRecDepth 100000 in
set_option maxHeartbeats 2000000 in
theorem l04Bytes_any (n : Nm) (w : World) (h : okB n = true) :
  Calls Tryz.prog 205 #[nmV n] w fun e w' => e = .returned (.string ⟨(nmL n).toArray⟩) ∧ Below w.heap.size w w' := by
 have hk := nmK_bounds h
 have ht := nmT_bounds h
 have hcs := nmL_cells h
 have hl := nmL_len n
 have hr := okB_of h
 have hkd : nmK n = n.u + 2097152 * n.m := rfl
 have htd : nmT n = n.s + 16 * n.y + if n.a = true then 128 else 0 := rfl
 clear h
 obtain ⟨l, hle⟩ : ∃ l, nmL n = l := ⟨_, rfl⟩
 rw [hle] at hcs hl ⊢
 clear hle
 generalize nmK n = k at *
 generalize nmT n = t at *
 obtain ⟨u, m, i, f, c, s, y, a⟩ := n
 unfold nmV
 dsimp only at *
 obtain ⟨⟨hu0, hu1⟩, ⟨hm0, hm1⟩, ⟨hi0, hi1⟩, ⟨hf0, hf1⟩, ⟨hc0, hc1⟩, ⟨hs0, hs1⟩, ⟨hy0, hy1⟩⟩ := hr
 have hh : ∀ o : Obj, ((w.alloc o).alloc (.cells #[.int .u8 (k % 256), .int .u8 (k / 256 % 256), .int .u8 (k / 65536 % 256), .int .u8 (k / 16777216), .int .u8 i, .int .u8 f, .int .u8 (2 * c), .int .u8 t] 5)).heap[w.heap.size + 1]? = some (.cells #[.int .u8 (k % 256), .int .u8 (k / 256 % 256), .int .u8 (k / 65536 % 256), .int .u8 (k / 16777216), .int .u8 i, .int .u8 f, .int .u8 (2 * c), .int .u8 t] 5) := fun o => heap_next w o _
 have hcv := fun o => conv_row (P := Tryz.prog) (hh o) (l := l) 8 hl.symm (by rw [hcs]; rfl) 153 9 Tryz.underlying153 Tryz.underlying5 Tryz.underlying9 8
 clear hh
 have hk' : u + 2097152 * m = k := hkd.symm
 clear hcs hkd
 cases a
 ·have ht' : s + 16 * y = t := by simp at htd; exact htd.symm
  clear htd
  go_enter Tryz.func205, Tryz.ntmps205
  go_wp2
  go_ret
  exact ⟨rfl, ((Below.refl _ _).alloc (Nat.le_refl _) _).alloc (by simp) _⟩
 ·have ht' : s + 16 * y + 128 = t := by simp at htd; exact htd.symm
  clear htd
  go_enter Tryz.func205, Tryz.ntmps205
  go_wp2
  go_ret
  exact ⟨rfl, ((Below.refl _ _).alloc (Nat.le_refl _) _).alloc (by simp) _⟩

end Go.Proofs.YtioldepgoodipaaGreat
namespace Go.Proofs.YtioldepgoodipaaGreat
open Go.RowKit
set_option linter.unusedVariables false

def set4 (w : World) (g : Nat) (k : Int) : World := (((w.setCell ⟨g, 0, none⟩ (.int .u8 (k % 256))).setCell ⟨g, 1, none⟩ (.int .u8 (k / 256 % 256))).setCell ⟨g, 2, none⟩ (.int .u8 (k / 65536 % 256))).setCell ⟨g, 3, none⟩ (.int .u8 (k / 16777216))
theorem set4_heap {w : World} {g : Nat} {k : Int} {a0 a1 a2 a3 : Value} {r : List Value} {T : TypeId} (h : w.heap[g]? = some (.cells (a0 :: a1 :: a2 :: a3 :: r).toArray T (0, 0))) :
  (set4 w g k).heap[g]? = some (.cells (.int .u8 (k % 256) :: .int .u8 (k / 256 % 256) :: .int .u8 (k / 65536 % 256) :: .int .u8 (k / 16777216) :: r).toArray T (0, 0)) := by
 have h0 := heap_setCell_same w g 0 _ _ (.int .u8 (k % 256)) h
 have h1 := heap_setCell_same _ g 1 _ _ (.int .u8 (k / 256 % 256)) h0
 have h2 := heap_setCell_same _ g 2 _ _ (.int .u8 (k / 65536 % 256)) h1
 have h3 := heap_setCell_same _ g 3 _ _ (.int .u8 (k / 16777216)) h2
 unfold set4
 rw [h3]
 simp
theorem set4_below {B : Nat} {w0 w : World} {g : Nat} {k : Int} (h : Below B w0 w) (hg : B ≤ g) : Below B w0 (set4 w g k) :=
 (((h.setCell (p := ⟨g, 0, none⟩) hg _).setCell (p := ⟨g, 1, none⟩) hg _).setCell (p := ⟨g, 2, none⟩) hg _).setCell (p := ⟨g, 3, none⟩) hg _

set_option maxRecDepth 100000 in
set_option maxHeartbeats 1000000 in
theorem putLowFirst_any (g cap : Nat) (k : Int) (a0 a1 a2 a3 : Value) (r : List Value) (T : TypeId) (w : World) (h : w.heap[g]? = some (.cells (a0 :: a1 :: a2 :: a3 :: r).toArray T (0, 0))) (h0 : 0 ≤ k) (h1 : k ≤ 4294967295) :
  Calls Tryz.prog 255 #[.slice (some ⟨g, 0, none⟩) 4 cap, .int .i64 k] w fun e w' => e = .returned (.tuple #[]) ∧ w' = set4 w g k := by
 have c0 := cell_of_row w g 0 _ _ (0, 0) h
 have c1 := cell_of_row w g 1 _ _ (0, 0) h
 have c2 := cell_of_row w g 2 _ _ (0, 0) h
 have c3 := cell_of_row w g 3 _ _ (0, 0) h
 have f0 := frozen_of_row w g 0 _ _ h
 have f1 := frozen_of_row w g 1 _ _ h
 have f2 := frozen_of_row w g 2 _ _ h
 have f3 := frozen_of_row w g 3 _ _ h
 simp at c0 c1 c2 c3
 have HS := Lib.hid (show set4 w g k = (((w.setCell ⟨g, 0, none⟩ (.int .u8 (k % 256))).setCell ⟨g, 1, none⟩ (.int .u8 (k / 256 % 256))).setCell ⟨g, 2, none⟩ (.int .u8 (k / 65536 % 256))).setCell ⟨g, 3, none⟩ (.int .u8 (k / 16777216)) from rfl)
 clear h
 go_enter Tryz.func255, Tryz.ntmps255
 go_wp2
 refine wp_loop_rounds 5 ?_
 iterate 5 (rw [rounds_succ]; go_wp2)
 go_end0
 exact ⟨rfl, by rw [HS.out]⟩

set_option maxHeartbeats 1000000 in
theorem parts_any (g o cap : Nat) (w : World) (h : 8 ≤ cap) :
  Calls Tryz.prog 253 #[.slice (some ⟨g, o, none⟩) 8 cap] w fun e w' => e = .returned (.tuple #[.slice (some ⟨g, o, none⟩) 4 4, .slice (some ⟨g, o + 4, none⟩) 4 4]) ∧ ∃ n, w' = w.drewN n := by
 go_enter Tryz.func253, Tryz.ntmps253
 go_wp2
 go_quiet (fail)
 go_wp2
 go_ret2
 exact ⟨rfl, _, rfl⟩
theorem or_at (e : Nat) {p x c : Int} (hp : p = ((2 ^ e : Nat) : Int)) (h0 : 0 ≤ x) (h1 : x < p) (h2 : 0 ≤ c) (h3 : x + c * p ≤ 18446744073709551615) : bits BinOp.or IntKind.u64 x (c * p) = x + c * p := by
 have hp0 : 0 < 2 ^ e := Nat.two_pow_pos e
 obtain ⟨d, rfl⟩ := Int.eq_ofNat_of_zero_le h2
 have e1 : ((d : Nat) : Int) * p = ((d * 2 ^ e : Nat) : Int) := by rw [hp]; simp
 rw [e1] at h3 ⊢
 have hx : x.toNat < 2 ^ e := by omega
 have hj := nat_join e (d * 2 ^ e) x.toNat (Nat.mul_mod_left _ _) hx
 rw [u64_or x _ (by omega) (by omega) (by omega) (by omega), Nat.or_comm, Int.toNat_natCast, hj]
 omega
theorem or_zero {c : Int} (h0 : 0 ≤ c) (h1 : c ≤ 255) : bits BinOp.or IntKind.u64 0 c = c := by
 have := or_at 0 (p := 1) (x := 0) (c := c) rfl (by omega) (by omega) h0 (by omega)
 simpa using this
set_option maxRecDepth 100000 in
set_option maxHeartbeats 1000000 in
theorem getLow8_any (g o cap : Nat) (b0 b1 b2 b3 b4 b5 b6 b7 : Int) (w : World) (h0 : w.cell? ⟨g, o, none⟩ = some (.int .u8 b0)) (h1 : w.cell? ⟨g, o + 1, none⟩ = some (.int .u8 b1)) (h2 : w.cell? ⟨g, o + 2, none⟩ = some (.int .u8 b2)) (h3 : w.cell? ⟨g, o + 3, none⟩ = some (.int .u8 b3)) (h4 : w.cell? ⟨g, o + 4, none⟩ = some (.int .u8 b4)) (h5 : w.cell? ⟨g, o + 5, none⟩ = some (.int .u8 b5)) (h6 : w.cell? ⟨g, o + 6, none⟩ = some (.int .u8 b6)) (h7 : w.cell? ⟨g, o + 7, none⟩ = some (.int .u8 b7))
  (l0 : 0 ≤ b0 ∧ b0 ≤ 255) (l1 : 0 ≤ b1 ∧ b1 ≤ 255) (l2 : 0 ≤ b2 ∧ b2 ≤ 255) (l3 : 0 ≤ b3 ∧ b3 ≤ 255) (l4 : 0 ≤ b4 ∧ b4 ≤ 255) (l5 : 0 ≤ b5 ∧ b5 ≤ 255) (l6 : 0 ≤ b6 ∧ b6 ≤ 255) (l7 : 0 ≤ b7 ∧ b7 ≤ 255) :
  Calls Tryz.prog 254 #[.slice (some ⟨g, o, none⟩) 8 cap] w fun e w' => e = .returned (.int .u64 (b0 + b1 * 256 + b2 * 65536 + b3 * 16777216 + b4 * 4294967296 + b5 * 1099511627776 + b6 * 281474976710656 + b7 * 72057594037927936)) ∧ w' = w := by
 have r0 := or_zero (c := b0) (by omega) (by omega)
 have r1 : bits BinOp.or IntKind.u64 (b0) (b1 * 256) = b0 + b1 * 256 := or_at 8 (p := 256) rfl (by omega) (by omega) (by omega) (by omega)
 have r2 : bits BinOp.or IntKind.u64 (b0 + b1 * 256) (b2 * 65536) = b0 + b1 * 256 + b2 * 65536 := or_at 16 (p := 65536) rfl (by omega) (by omega) (by omega) (by omega)
 have r3 : bits BinOp.or IntKind.u64 (b0 + b1 * 256 + b2 * 65536) (b3 * 16777216) = b0 + b1 * 256 + b2 * 65536 + b3 * 16777216 := or_at 24 (p := 16777216) rfl (by omega) (by omega) (by omega) (by omega)
 have r4 : bits BinOp.or IntKind.u64 (b0 + b1 * 256 + b2 * 65536 + b3 * 16777216) (b4 * 4294967296) = b0 + b1 * 256 + b2 * 65536 + b3 * 16777216 + b4 * 4294967296 := or_at 32 (p := 4294967296) rfl (by omega) (by omega) (by omega) (by omega)
 have r5 : bits BinOp.or IntKind.u64 (b0 + b1 * 256 + b2 * 65536 + b3 * 16777216 + b4 * 4294967296) (b5 * 1099511627776) = b0 + b1 * 256 + b2 * 65536 + b3 * 16777216 + b4 * 4294967296 + b5 * 1099511627776 := or_at 40 (p := 1099511627776) rfl (by omega) (by omega) (by omega) (by omega)
 have r6 : bits BinOp.or IntKind.u64 (b0 + b1 * 256 + b2 * 65536 + b3 * 16777216 + b4 * 4294967296 + b5 * 1099511627776) (b6 * 281474976710656) = b0 + b1 * 256 + b2 * 65536 + b3 * 16777216 + b4 * 4294967296 + b5 * 1099511627776 + b6 * 281474976710656 := or_at 48 (p := 281474976710656) rfl (by omega) (by omega) (by omega) (by omega)
 have r7 : bits BinOp.or IntKind.u64 (b0 + b1 * 256 + b2 * 65536 + b3 * 16777216 + b4 * 4294967296 + b5 * 1099511627776 + b6 * 281474976710656) (b7 * 72057594037927936) = b0 + b1 * 256 + b2 * 65536 + b3 * 16777216 + b4 * 4294967296 + b5 * 1099511627776 + b6 * 281474976710656 + b7 * 72057594037927936 := or_at 56 (p := 72057594037927936) rfl (by omega) (by omega) (by omega) (by omega)
 go_enter Tryz.func254, Tryz.ntmps254
 go_wp2
 refine wp_loop_rounds 9 ?_
 iterate 9 (rw [rounds_succ]; go_wp2)
 go_ret
 exact ⟨rfl, rfl⟩
end Go.Proofs.YtioldepgoodipaaGreat
namespace Go.Proofs.YtioldepgoodipaaGreat
open Go.RowKit
set_option linter.unusedVariables false

theorem NameImpl.info8 : (Tryz.prog.info? 5).map (fun i => (i.zero, i.size, i.bytes)) = some (some (.int .u8 0), 1, 1) := by kernel_rfl
theorem NameImpl.one8 : (Tryz.prog.info? 5).map (·.size) = some 1 := by kernel_rfl
theorem eight {α : Type} {l : List α} (h : l.length = 8) : ∃ x0 x1 x2 x3 x4 x5 x6 x7, l = [x0, x1, x2, x3, x4, x5, x6, x7] := by
 match l, h with
 | [x0, x1, x2, x3, x4, x5, x6, x7], _ => exact ⟨x0, x1, x2, x3, x4, x5, x6, x7, rfl⟩
theorem heap_lt {w : World} {g : Nat} {o : Obj} (h : w.heap[g]? = some o) : g < w.heap.size := by
 rcases Nat.lt_or_ge g w.heap.size with h' | h'
 ·exact h'
 ·simp [Array.getElem?_eq_none h'] at h
theorem below_drewN' {B : Nat} {a w : World} (h : Below B a w) (n : Nat) : Below B a (w.drewN n) := ⟨h.os, h.tape, h.output, h.size, h.block⟩
theorem cells_first' {w : World} {B : Nat} {cs : Array Value} {t : TypeId} {fr : Nat × Nat} (hb : w.heap[B]? = some (.cells cs t fr)) {l : List Value} (hl : cs.toList = l := by rfl) : ∀ (j : Nat) u, l[j]? = some u → w.cell? ((⟨B, 0, none⟩ : Addr).add j) = some u := fun j u hu => by
 have hadd : (⟨B, 0, none⟩ : Addr).add j = ⟨B, j, none⟩ := by unfold Addr.add; split <;> simp_all
 rw [hadd, cell_of_row w B j cs t fr hb]
 subst hl
 simpa using hu

set_option maxHeartbeats 1000000 in
theorem lastByte_any (n : Nm) (w : World) (h : okB n = true) :
  Calls Tryz.prog 256 #[nmV n] w fun e w' => e = .returned (.int .u8 (nmT n)) ∧ Below w.heap.size w w' := by
 have ht := nmT_bounds h
 have hr := okB_of h
 have htd : nmT n = n.s + 16 * n.y + if n.a = true then 128 else 0 := rfl
 clear h
 generalize nmT n = t at *
 obtain ⟨u, m, i, f, c, s, y, a⟩ := n
 unfold nmV
 dsimp only at *
 obtain ⟨⟨hu0, hu1⟩, ⟨hm0, hm1⟩, ⟨hi0, hi1⟩, ⟨hf0, hf1⟩, ⟨hc0, hc1⟩, ⟨hs0, hs1⟩, ⟨hy0, hy1⟩⟩ := hr
 cases a
 ·have ht' : s + 16 * y = t := by simp at htd; exact htd.symm
  clear htd
  go_enter Tryz.func256, Tryz.ntmps256
  go_wp2
  go_ret
  exact ⟨rfl, (Below.refl _ _).alloc (Nat.le_refl _) _⟩
 ·have ht' : s + 16 * y + 128 = t := by simp at htd; exact htd.symm
  clear htd
  go_enter Tryz.func256, Tryz.ntmps256
  go_wp2
  go_ret
  exact ⟨rfl, (Below.refl _ _).alloc (Nat.le_refl _) _⟩

set_option maxRecDepth 100000 in
set_option maxHeartbeats 4000000 in
theorem implNameBytes_any (n : Nm) (w : World) :
  Calls Tryz.prog 238 #[nmV n] w fun e w' => e = .returned (.string ⟨(nmBytes n).toArray⟩) ∧ Below w.heap.size w w' := by
 rcases h : okB n
 ·have HO := Lib.hid (show nmBytes n = [] by simp [nmBytes, h])
  have HR := fun W => Lib.hid (implNameOk_any n W)
  rw [h] at HR
  unfold nmV at *
  go_enter Tryz.func238, Tryz.ntmps238
  go_wp2_with (go_at_call 186; refine (HR _).out.mono ?_; rintro e w1 ⟨rfl, h1⟩)
  go_ret
  exact ⟨by rw [HO.out]; rfl, ((Below.refl _ _).alloc (Nat.le_refl _) _).trans (h1.mono (by simp))⟩
 ·have HO := Lib.hid (show nmBytes n = nmL n by simp [nmBytes, h])
  have HR := fun W => Lib.hid (implNameOk_any n W)
  have HT := fun W => Lib.hid (lastByte_any n W h)
  rw [h] at HR
  have hk := nmK_bounds h
  have ht := nmT_bounds h
  have hcs := nmL_cells h
  have hl := nmL_len n
  have hr := okB_of h
  have hkd : nmK n = n.u + 2097152 * n.m := rfl
  clear h
  obtain ⟨l, hle⟩ : ∃ l, nmL n = l := ⟨_, rfl⟩
  rw [hle] at hcs hl HO
  clear hle
  generalize nmK n = k at *
  generalize nmT n = t at *
  obtain ⟨u, m, i, f, c, s, y, a⟩ := n
  unfold nmV at *
  dsimp only at *
  obtain ⟨⟨hu0, hu1⟩, ⟨hm0, hm1⟩, ⟨hi0, hi1⟩, ⟨hf0, hf1⟩, ⟨hc0, hc1⟩, ⟨hs0, hs1⟩, ⟨hy0, hy1⟩⟩ := hr
  have hk' : u + 2097152 * m = k := hkd.symm
  clear hkd
  have HC := Lib.hid hcs
  have HL := Lib.hid hl
  clear hcs hl
  obtain ⟨i0, hi, hz0, hz1, hz2⟩ := info_parts NameImpl.info8
  go_enter Tryz.func238, Tryz.ntmps238
  go_wp2_with (first
   | (go_at_call 186; refine (HR _).out.mono ?_; rintro e w1 ⟨rfl, h1⟩; obtain ⟨c1, f1⟩ := bcell h1; have z1 : w.heap.size < w1.heap.size := (by have := h1.size; simp at this; omega))
   | (at_make; refine wpList_make_full _ rfl (.const (.int .i64 8)) (.const (.int .i64 8)) 153 rfl w1.heap.size 5 i0 (.int .u8 0) 1 Tryz.underlying153 hi hz0 hz1 .i64 .i64 8 8 8 (by rfl) (by rfl) (by omega) (by omega) (by rw [hz2]; omega) (by unfold maxLen; omega) (Nat.le_refl _) ?_; intro w2 hown hgrow; have b2 : Below w1.heap.size w1 w2 := (Below.refl _ _).grown hgrow (Nat.le_refl _) (fun _ h => by cases h); obtain ⟨cur, hcur, hlen⟩ := own_row hown; obtain ⟨x0, x1, x2, x3, x4, x5, x6, x7, rfl⟩ := eight hlen; have HC2 := Lib.hid hcur; have z2 : w1.heap.size < w2.heap.size := (heap_lt hcur); clear hcur hlen hown hgrow; obtain ⟨c2, f2⟩ := bcell b2)
   | (go_at_call 253; refine (parts_any _ _ _ _ (by omega)).mono ?_; rintro e w3 ⟨rfl, nd, rfl⟩; have HC2D := Lib.hid (show (w2.drewN nd).heap[w1.heap.size]? = some (.cells [x0, x1, x2, x3, x4, x5, x6, x7].toArray 5 (0, 0)) from HC2.out))
   | (go_at_call 255; (refine (putLowFirst_any w1.heap.size 4 k x0 x1 x2 x3 [x4, x5, x6, x7] 5 (w2.drewN nd) HC2D.out (by omega) (by omega)).mono ?_); rintro e w4 ⟨rfl, hw4⟩; have b4 : Below w1.heap.size w1 w4 := (by rw [hw4]; exact set4_below (below_drewN' b2 _) (Nat.le_refl _)); have hs4 := set4_heap (k := k) (r := [x4, x5, x6, x7]) (w := w2.drewN nd) HC2D.out; rw [← hw4] at hs4; have HC4 := Lib.hid hs4; clear hs4 hw4))
  have kc : (w1.cell? ⟨w.heap.size, 0, none⟩ = some (.int .i64 u) ∧ w1.cell? ⟨w.heap.size, 1, none⟩ = some (.int .i64 m) ∧ w1.cell? ⟨w.heap.size, 2, none⟩ = some (.int .i64 i) ∧ w1.cell? ⟨w.heap.size, 3, none⟩ = some (.int .i64 f) ∧ w1.cell? ⟨w.heap.size, 4, none⟩ = some (.int .i64 c) ∧ w1.cell? ⟨w.heap.size, 5, none⟩ = some (.int .i64 s) ∧ w1.cell? ⟨w.heap.size, 6, none⟩ = some (.int .i64 y) ∧ w1.cell? ⟨w.heap.size, 7, none⟩ = some (.bool a)) := by
   refine ⟨?_, ?_, ?_, ?_, ?_, ?_, ?_, ?_⟩ <;> (rw [c1 _ _ (by simp)]; simp [go_sem])
  have hz4 : w1.heap.size < w4.heap.size := heap_lt HC4.out
  have keep : ∀ W, Below w1.heap.size w1 W → (fun W => (W.cell? ⟨w.heap.size, 0, none⟩ = some (.int .i64 u) ∧ W.cell? ⟨w.heap.size, 1, none⟩ = some (.int .i64 m) ∧ W.cell? ⟨w.heap.size, 2, none⟩ = some (.int .i64 i) ∧ W.cell? ⟨w.heap.size, 3, none⟩ = some (.int .i64 f) ∧ W.cell? ⟨w.heap.size, 4, none⟩ = some (.int .i64 c) ∧ W.cell? ⟨w.heap.size, 5, none⟩ = some (.int .i64 s) ∧ W.cell? ⟨w.heap.size, 6, none⟩ = some (.int .i64 y) ∧ W.cell? ⟨w.heap.size, 7, none⟩ = some (.bool a)) ∧ Below w1.heap.size w1 W) W := fun W hW => by
   obtain ⟨k0, k1, k2, k3, k4, k5, k6, k7⟩ := kc
   exact ⟨⟨(hW.cell (p := ⟨_, _, none⟩) z1).trans k0, (hW.cell (p := ⟨_, _, none⟩) z1).trans k1, (hW.cell (p := ⟨_, _, none⟩) z1).trans k2, (hW.cell (p := ⟨_, _, none⟩) z1).trans k3, (hW.cell (p := ⟨_, _, none⟩) z1).trans k4, (hW.cell (p := ⟨_, _, none⟩) z1).trans k5, (hW.cell (p := ⟨_, _, none⟩) z1).trans k6, (hW.cell (p := ⟨_, _, none⟩) z1).trans k7⟩, hW⟩
  have HK := Lib.hid keep
  clear keep kc
  have b0 : Below w.heap.size w w1 := ((Below.refl _ _).alloc (Nat.le_refl _) _).trans (h1.mono (by simp))
  clear c1 f1 h1 c2 f2
  have wi : IntKind.u8.wrap i = i := IntWalk.u8_in _ (by omega)
  have wf : IntKind.u8.wrap f = f := IntWalk.u8_in _ (by omega)
  have wc : IntKind.i64.wrap (2 * c) = 2 * c := IntWalk.i64_in _ (by omega)
  have wd : IntKind.u8.wrap (2 * c) = 2 * c := IntWalk.u8_in _ (by omega)
  go_region_held3 (fun W => (W.cell? ⟨w.heap.size, 0, none⟩ = some (.int .i64 u) ∧ W.cell? ⟨w.heap.size, 1, none⟩ = some (.int .i64 m) ∧ W.cell? ⟨w.heap.size, 2, none⟩ = some (.int .i64 i) ∧ W.cell? ⟨w.heap.size, 3, none⟩ = some (.int .i64 f) ∧ W.cell? ⟨w.heap.size, 4, none⟩ = some (.int .i64 c) ∧ W.cell? ⟨w.heap.size, 5, none⟩ = some (.int .i64 s) ∧ W.cell? ⟨w.heap.size, 6, none⟩ = some (.int .i64 y) ∧ W.cell? ⟨w.heap.size, 7, none⟩ = some (.bool a)) ∧ Below w1.heap.size w1 W)
   (first | exact HK.out _ b4.drew | exact HK.out _ b5 | exact HK.out _ (b5.alloc (Nat.le_of_lt hz5) _) | exact HK.out _ b7)
   (first
    | (go_at_call 256; refine (HT _).out.mono ?_; rintro e w5 ⟨rfl, h5⟩; have b5 : Below w1.heap.size w1 w5 := b4.drew.trans (h5.mono (Nat.le_of_lt hz4)); have HC5 := Lib.hid ((h5.block w1.heap.size hz4).trans HC4.out); have hz5 : w1.heap.size < w5.heap.size := heap_lt HC5.out)
    | (refine step_copy_splice rfl (.tmp 23) (.tmp 36) 153 153 rfl 5 Tryz.underlying153 NameImpl.one8 (some ⟨w1.heap.size, 4, none⟩) (some ⟨w5.heap.size, 0, none⟩) 4 4 4 4 rfl rfl w1.heap.size 4 _ 5 ((Below.heap_alloc w5 _ _ hz5).trans HC5.out) [.int .u8 i, .int .u8 f, .int .u8 (2 * c), .int .u8 t] rfl (fun _ => ⟨rfl, ⟨w5.heap.size, 0, none⟩, rfl, cells_first' (heap_alloc_new w5 _)⟩) (by simp) (by simp [Value.oneCell']) w1.heap.size w1 (b5.alloc (Nat.le_of_lt hz5) _) (Nat.le_refl _) ?_; intro w7 HC7 b7))
  have hcv := conv_row (P := Tryz.prog) HC7.out (l := l) 8 HL.out.symm (by rw [HC.out]; simp [splice]) 153 9 Tryz.underlying153 Tryz.underlying5 Tryz.underlying9 8
  clear HC7 HK
  go_wp2
  go_ret
  exact ⟨by rw [HO.out]; rfl, b0.trans (b7.mono (Nat.le_of_lt z1))⟩
end Go.Proofs.YtioldepgoodipaaGreat
namespace Go.Proofs.YtioldepgoodipaaGreat
open Go.RowKit
set_option linter.unusedVariables false

def BytesIn (u : World) (g : Nat) (l : List UInt8) : Prop := ∀ j (hj : j < l.length), u.cell? ⟨g, j, none⟩ = some (.int .u8 (l[j].toNat : Int)) ∧ u.frozen? ⟨g, j, none⟩ = false
theorem BytesIn.below {u u' : World} {g B : Nat} {l : List UInt8} (h : BytesIn u g l) (hb : Below B u u') (hg : g < B) : BytesIn u' g l :=
 fun j hj => ⟨(hb.cell (p := ⟨g, j, none⟩) hg).trans (h j hj).1, (hb.frozen (p := ⟨g, j, none⟩) hg).trans (h j hj).2⟩
theorem BytesIn.drew {u : World} {g : Nat} {l : List UInt8} (h : BytesIn u g l) : BytesIn u.drew g l := h
theorem BytesIn.set {u : World} {g : Nat} {l : List UInt8} (h : BytesIn u g l) (k : Nat) (hk : k < l.length) (c : UInt8) : BytesIn (u.setCell ⟨g, k, none⟩ (.int .u8 (c.toNat : Int))) g (l.set k c) := by
 intro j hj
 have hj' : j < l.length := by simpa using hj
 refine ⟨?_, by rw [World.frozen?_setCell]; exact (h j hj').2⟩
 by_cases e : k = j
 ·subst e
  rw [World.cell?_setCell_same _ _ _ (h k hk).1]
  simp
 ·rw [List.getElem_set_ne e]
  rw [World.cell?_setCell_other _ _ _ _ (fun q => e (by simp at q))]
  exact (h j hj').1
theorem BytesIn.conv {P : Program} {u : World} {g : Nat} {l : List UInt8} (h : BytesIn u g l) (src dst T : TypeId) (hs : P.underlying src = some (.slice T)) (he : P.underlying T = some (.int .u8)) (hd : P.underlying dst = some .string) (n : Nat) (hn : n = l.length) (cap : Nat) :
  (convert src dst (.slice (some ⟨g, 0, none⟩) n cap)).run P u = .ok (.string ⟨l.toArray⟩) u := by
 subst hn
 refine run_convert_bytes_back u src dst T _ cap l hs he hd fun j hj => ?_
 have e : (⟨g, 0, none⟩ : Addr).add j = ⟨g, j, none⟩ := by unfold Addr.add; split <;> simp_all
 rw [e]
 exact (h j hj).1


section
variable {P : Program} {w : World}
theorem wpList_bytes {ops : Array Oper} {rest : List Oper} {o : Oper} {a : Act} {Q : Exit → Act → World → Prop} (hgd : o.guard = none) (x : Operand) (src dst T : TypeId) (ho : o.op = .convert src dst x)
  (hs : P.underlying src = some .string) (hd : P.underlying dst = some (.slice T)) (he : P.underlying T = some (.int .u8)) (l : List UInt8) (hx : a.eval x = .string ⟨l.toArray⟩)
  (h : ∀ cap w', BytesIn w' w.heap.size l → Below w.heap.size w w' → w.heap.size < w'.heap.size → l.length ≤ cap → wpList P ops Q rest (a.put o.dst (.slice (some ⟨w.heap.size, 0, none⟩) l.length cap)) w') : wpList P ops Q (o :: rest) a w := by
 refine wpList_plain hgd fun K hK => ?_
 have hrun := run_bytes_of_string (P := P) w src dst T ⟨l.toArray⟩ hs hd he
 have hsz : (ByteArray.mk l.toArray).size = l.length := by show l.toArray.size = _; simp
 rw [hsz] at hrun
 unfold Oper.wp
 simp [execOp, ho, hx, hrun, Result.andThen]
 refine hK _ _ (h _ _ (fun j hj => ⟨?_, ?_⟩) ((Below.refl _ _).drew.alloc (Nat.le_refl _) _) (by simp) (grownCap_ge w l.length 0 T))
 ·rw [show w.heap.size = w.drew.heap.size from rfl, World.cell?_alloc_mark, bytesRow_at _ _ _ (by simpa using hj)]
  simp
 ·rw [show w.heap.size = w.drew.heap.size from rfl, World.frozen?_alloc_mark]
  have : j < (bytesRow ⟨l.toArray⟩ (grownCap w l.length 0 T)).size := by
   unfold bytesRow
   simp
   omega
  simp
  omega
end
end Go.Proofs.YtioldepgoodipaaGreat
namespace Go.Proofs.YtioldepgoodipaaGreat
open Go.RowKit
set_option linter.unusedVariables false

def lessF (x y : ByteArray) : Nat → Bool
 | 0 => false
 | k + 1 => if byteAt x k = byteAt y k then lessF x y k else decide (byteAt x k < byteAt y k)
def nmN (n : Nm) : Int := nmK n % 256 + nmK n / 256 % 256 * 256 + nmK n / 65536 % 256 * 65536 + nmK n / 16777216 * 16777216 + n.i * 4294967296 + n.f * 1099511627776 + (2 * n.c) * 281474976710656 + nmT n * 72057594037927936
theorem nmL_bytes {n : Nm} (h : okB n = true) : ∃ y0 y1 y2 y3 y4 y5 y6 y7 : UInt8, nmL n = [y0, y1, y2, y3, y4, y5, y6, y7] ∧ (y0.toNat : Int) = nmK n % 256 ∧ (y1.toNat : Int) = nmK n / 256 % 256 ∧ (y2.toNat : Int) = nmK n / 65536 % 256 ∧ (y3.toNat : Int) = nmK n / 16777216 ∧ (y4.toNat : Int) = n.i ∧ (y5.toNat : Int) = n.f ∧ (y6.toNat : Int) = 2 * n.c ∧ (y7.toNat : Int) = nmT n := by
 have hcs := nmL_cells h
 obtain ⟨y0, y1, y2, y3, y4, y5, y6, y7, e⟩ := eight (nmL_len n)
 rw [e] at hcs
 simp [bcells] at hcs
 exact ⟨y0, y1, y2, y3, y4, y5, y6, y7, e, hcs.1, hcs.2.1, hcs.2.2.1, hcs.2.2.2.1, hcs.2.2.2.2.1, hcs.2.2.2.2.2.1, hcs.2.2.2.2.2.2.1, hcs.2.2.2.2.2.2.2⟩
theorem lessF_nm {a b : Nm} (ha : okB a = true) (hb : okB b = true) : lessF ⟨(nmL a).toArray⟩ ⟨(nmL b).toArray⟩ 8 = decide (nmN a < nmN b) := by
 have ka := nmK_bounds ha
 have ta := nmT_bounds ha
 have ra := okB_of ha
 have kb := nmK_bounds hb
 have tb := nmT_bounds hb
 have rb := okB_of hb
 obtain ⟨x0, x1, x2, x3, x4, x5, x6, x7, e, p0, p1, p2, p3, p4, p5, p6, p7⟩ := nmL_bytes ha
 obtain ⟨y0, y1, y2, y3, y4, y5, y6, y7, e', q0, q1, q2, q3, q4, q5, q6, q7⟩ := nmL_bytes hb
 rw [e, e']
 have hx : ∀ (l : List UInt8) (j : Nat), byteAt ⟨l.toArray⟩ j = ((l[j]?.getD 0).toNat : Int) := fun l j => rfl
 unfold nmN
 generalize nmK a = k at *
 generalize nmK b = k' at *
 generalize nmT a = t at *
 generalize nmT b = t' at *
 simp only [lessF, hx, List.getElem?_cons_zero, List.getElem?_cons_succ, Option.getD_some, p0, p1, p2, p3, p4, p5, p6, p7, q0, q1, q2, q3, q4, q5, q6, q7]
 repeat' split
 all_goals first
  | (symm; rw [decide_eq_false_iff_not]; omega)
  | (rw [decide_eq_decide]; omega)

set_option maxRecDepth 100000 in
set_option maxHeartbeats 1000000 in
theorem l04Less_any (a b : Nm) (w : World) (ha : okB a = true) (hb : okB b = true) :
  Calls Tryz.prog 156 #[nmV a, nmV b] w fun e w' => e = .returned (.bool (decide (nmN a < nmN b))) ∧ Below w.heap.size w w' := by
 have HA := fun W => Lib.hid (l04Bytes_any a W ha)
 have HB := fun W => Lib.hid (l04Bytes_any b W hb)
 rw [← lessF_nm ha hb]
 have la : (ByteArray.mk (nmL a).toArray).size = 8 := rfl
 have lb : (ByteArray.mk (nmL b).toArray).size = 8 := rfl
 clear ha hb
 unfold nmV at *
 generalize ByteArray.mk (nmL a).toArray = x at *
 generalize ByteArray.mk (nmL b).toArray = y at *
 obtain ⟨R, hR⟩ : ∃ R, lessF x y 8 = R := ⟨_, rfl⟩
 rw [hR]
 have HR := Lib.hid hR
 clear hR
 go_enter Tryz.func156, Tryz.ntmps156
 go_wp2_with fail
 refine (HA _).out.mono ?_
 rintro e w1 ⟨rfl, h1⟩
 obtain ⟨c1, f1⟩ := bcell h1
 have z1 : w.heap.size + 1 < w1.heap.size := by have := h1.size; simp at this; omega
 go_wp2_with fail
 refine (HB _).out.mono ?_
 rintro e w2 ⟨rfl, h2⟩
 have b2 : Below w.heap.size w w2 := (((((Below.refl _ _).alloc (Nat.le_refl _) _).alloc (by simp) _).trans (h1.mono (by simp; omega)))).trans (h2.mono (by omega))
 clear h1 c1 f1 h2 HA HB
 go_wp2_with fail
 go_loopw [7] (fun i wr => ∃ k : Nat, i = .int .i64 ((k : Int) - 1) ∧ k ≤ 8 ∧ lessF x y k = R ∧ Below w.heap.size w wr) (fun i _ => (intOf i + 1).toNat)
 case atStart => exact ⟨8, rfl, by omega, HR.out, b2⟩
 case round =>
  obtain ⟨k, rfl, hk, hr, hb⟩ := hrel
  have HRk := Lib.hid hr
  clear hr
  rcases k with _ | k
  ·go_wp2
   go_ret
   exact ⟨by rw [← HRk.out]; rfl, hb⟩
  ·have e1 : (((k + 1 : Nat) : Int) - 1) = (k : Int) := by omega
   rw [e1]
   have hd : decide ((0 : Int) ≤ (k : Int)) = true := by simp
   have hi1 : (0 : Int) ≤ (k : Int) := by omega
   have hi2 : (k : Int) < (x.size : Int) := by omega
   have hi3 : (k : Int) < (y.size : Int) := by omega
   have hx := byteAt_get x k (by omega)
   have hy := byteAt_get y k (by omega)
   have HT := Lib.hid (show lessF x y (k + 1) = if byteAt x k = byteAt y k then lessF x y k else decide (byteAt x k < byteAt y k) from rfl)
   generalize byteAt x k = p at *
   generalize byteAt y k = q at *
   by_cases hpq : p = q
   ·have HO := Lib.hid (HT.out.symm.trans HRk.out |> fun h => (if_pos hpq).symm.trans h)
    clear HT HRk
    subst hpq
    go_wp2_with fail
    go_quiet (fail)
    go_wp2
    go_roundw
    case rel => exact ⟨k, by go_num, by omega, HO.out, below_drewN' hb _⟩
    case measure => simp [intOf]
   ·have HO := Lib.hid (HT.out.symm.trans HRk.out |> fun h => (if_neg hpq).symm.trans h)
    have hq1 : (p == q) = false := by simpa using hpq
    have hq2 : (p != q) = true := by simpa using hpq
    clear HT HRk hpq
    go_wp2_with fail
    go_quiet (fail)
    go_wp2_with fail
    go_quiet (fail)
    go_wp2
    go_ret
    exact ⟨by rw [← HO.out]; rfl, below_drewN' (below_drewN' hb _) _⟩
end Go.Proofs.YtioldepgoodipaaGreat
namespace Go.Proofs.YtioldepgoodipaaGreat
open Go.RowKit
set_option linter.unusedVariables false

def nmLessB (a b : Nm) : Bool := okB a && (okB b && decide (nmN a < nmN b))


set_option maxRecDepth 100000 in
set_option maxHeartbeats 1000000 in
theorem nameNumber_any (n : Nm) (w : World) (h : okB n = true) :
  Calls Tryz.prog 243 #[nmV n] w fun e w' => e = .returned (.int .u64 (nmN n)) ∧ Below w.heap.size w w' := by
 have HB := fun W => Lib.hid (implNameBytes_any n W)
 have hk := nmK_bounds h
 have ht := nmT_bounds h
 have hr := okB_of h
 obtain ⟨y0, y1, y2, y3, y4, y5, y6, y7, e, p0, p1, p2, p3, p4, p5, p6, p7⟩ := nmL_bytes h
 have hl : nmBytes n = [y0, y1, y2, y3, y4, y5, y6, y7] := by rw [← e]; simp [nmBytes, h]
 rw [hl] at HB
 have hN : nmN n = y0.toNat + y1.toNat * 256 + y2.toNat * 65536 + y3.toNat * 16777216 + y4.toNat * 4294967296 + y5.toNat * 1099511627776 + y6.toNat * 281474976710656 + y7.toNat * 72057594037927936 := by
  unfold nmN
  rw [p0, p1, p2, p3, p4, p5, p6, p7]
 rw [hN]
 clear hN hl e h p0 p1 p2 p3 p4 p5 p6 p7 hk ht hr
 have HG := fun (g cap : Nat) (W : World) (hin : BytesIn W g [y0, y1, y2, y3, y4, y5, y6, y7]) => Lib.hid (getLow8_any g 0 cap y0.toNat y1.toNat y2.toNat y3.toNat y4.toNat y5.toNat y6.toNat y7.toNat W (hin 0 (by simp)).1 (hin 1 (by simp)).1 (hin 2 (by simp)).1 (hin 3 (by simp)).1 (hin 4 (by simp)).1 (hin 5 (by simp)).1 (hin 6 (by simp)).1 (hin 7 (by simp)).1
  (by have := y0.toNat_lt; omega) (by have := y1.toNat_lt; omega) (by have := y2.toNat_lt; omega) (by have := y3.toNat_lt; omega) (by have := y4.toNat_lt; omega) (by have := y5.toNat_lt; omega) (by have := y6.toNat_lt; omega) (by have := y7.toNat_lt; omega))
 unfold nmV at *
 go_enter Tryz.func243, Tryz.ntmps243
 go_wp2_with (first
  | (go_at_call 238; refine (HB _).out.mono ?_; rintro e w1 ⟨rfl, h1⟩)
  | (refine wpList_bytes rfl (.tmp 4) 9 153 5 rfl Tryz.underlying9 Tryz.underlying153 Tryz.underlying5 [y0, y1, y2, y3, y4, y5, y6, y7] rfl (fun cap w2 hin h2 z2 hcap => ?_); have HI := Lib.hid hin; clear hin)
  | (go_at_call 254; refine (HG _ _ _ HI.out).out.mono ?_; rintro e w3 ⟨rfl, rfl⟩))
 go_ret
 exact ⟨rfl, (((Below.refl _ _).alloc (Nat.le_refl _) _).trans (h1.mono (by simp))).trans (h2.mono (by have := h1.size; simp at this; omega))⟩
end Go.Proofs.YtioldepgoodipaaGreat
namespace Go.Proofs.YtioldepgoodipaaGreat
open Go.RowKit
set_option linter.unusedVariables false

structure Cl where (n : Nm) (ad : Int) (st : Int) (lf : Int) (tk : List Int)
def riseB : Int → List Int → Bool
 | _, [] => true
 | p, x :: r => inB 0 251 x && (decide (p < x) && riseB x r)
def stateB (c : Cl) : Bool :=
 if c.st = 1 then inB 0 251 c.ad && inB 1 250 c.lf else if c.st = 2 then inB 0 251 c.ad && decide (c.lf = 0) else if c.st = 3 then decide (c.ad = 254) && decide (c.lf = 0) else false
def clB (c : Cl) : Bool := okB c.n && (decide (c.tk.length ≤ 252) && (riseB (-1) c.tk && stateB c))
theorem riseB_cons {p x : Int} {r : List Int} (h : riseB p (x :: r) = true) : (0 ≤ x ∧ x ≤ 251) ∧ p < x ∧ riseB x r = true := by
 simp only [riseB, Bool.and_eq_true, decide_eq_true_eq] at h
 exact ⟨inB_of h.1, h.2.1, h.2.2⟩
theorem riseB_len {p : Int} {l : List Int} (h : riseB p l = true) (hp : p ≤ 251) : (l.length : Int) ≤ 251 - p := by
 induction l generalizing p with
 | nil => simp; omega
 | cons y r ih =>
  obtain ⟨h0, h1, h2⟩ := riseB_cons h
  have := ih h2 h0.2
  simp
  omega
def takeI : List Int → Int → List Int
 | [], x => [x]
 | y :: r, x => if y < x then y :: takeI r x else if y = x then x :: r else x :: y :: r
def cntI : List Int → Int → Nat
 | [], _ => 0
 | y :: r, x => if y < x then cntI r x + 1 else 0
def nextF (l : List Int) : Nat → Int → Int
 | 0, a => a
 | f + 1, a => if (a + 1) % 252 ∈ l then nextF l f ((a + 1) % 252) else (a + 1) % 252
def nextI (l : List Int) (a : Int) : Int := nextF l 252 a
def hearC (c : Cl) (s : Int) (m : Nm) (same : Bool) : Cl × Bool :=
 if same = true then (c, false) else
 let t := if inB 0 251 s = true then takeI c.tk s else c.tk
 if s ≠ c.ad ∨ c.st = 3 then (⟨c.n, c.ad, c.st, c.lf, t⟩, false)
 else if nmN c.n < nmN m then (⟨c.n, c.ad, c.st, c.lf, t⟩, true)
 else if c.n.a = false ∨ 251 < t.length then (⟨c.n, 254, 3, 0, t⟩, true)
 else (⟨c.n, nextI t c.ad, 1, 250, t⟩, true)
def tickC (c : Cl) : Cl := if c.st = 1 then ⟨c.n, c.ad, if c.lf - 1 = 0 then 2 else 1, c.lf - 1, c.tk⟩ else c
theorem clB_of {c : Cl} (h : clB c = true) : okB c.n = true ∧ c.tk.length ≤ 252 ∧ riseB (-1) c.tk = true ∧ stateB c = true := by
 simpa [clB] using h
theorem stateB_of {c : Cl} (h : stateB c = true) : (c.st = 1 ∧ (0 ≤ c.ad ∧ c.ad ≤ 251) ∧ 1 ≤ c.lf ∧ c.lf ≤ 250) ∨ (c.st = 2 ∧ (0 ≤ c.ad ∧ c.ad ≤ 251) ∧ c.lf = 0) ∨ (c.st = 3 ∧ c.ad = 254 ∧ c.lf = 0) := by
 unfold stateB at h
 split at h
 ·simp only [Bool.and_eq_true] at h
  exact .inl ⟨by assumption, inB_of h.1, (inB_of h.2).1, (inB_of h.2).2⟩
 split at h
 ·simp only [Bool.and_eq_true, decide_eq_true_eq] at h
  exact .inr (.inl ⟨by assumption, inB_of h.1, h.2⟩)
 split at h
 ·simp only [Bool.and_eq_true, decide_eq_true_eq] at h
  exact .inr (.inr ⟨by assumption, h⟩)
 ·cases h
def ticksC : Nat → Cl → Cl
 | 0, c => c
 | k + 1, c => ticksC k (tickC c)
end Go.Proofs.YtioldepgoodipaaGreat
namespace Go.Proofs.YtioldepgoodipaaGreat
open Go.RowKit Go.ChangeShapes Go.WideShapes Go.ChangeAt Go.Joins
set_option linter.unusedVariables false

structure Nd where
 c : Cl
 q : List (Int × ByteArray)
 t : List Se
 d : List Dv
 g : List Gt
 s : Int
def ndV (x : Nd) (a1 a2 a3 a4 a5 : Option Addr) (c1 c2 c3 c4 c5 : Nat) : Value :=
 .agg #[.int .i64 x.c.n.u, .int .i64 x.c.n.m, .int .i64 x.c.n.i, .int .i64 x.c.n.f, .int .i64 x.c.n.c, .int .i64 x.c.n.s, .int .i64 x.c.n.y, .bool x.c.n.a, .int .i64 x.c.ad, .int .i64 x.c.st, .int .i64 x.c.lf, .slice a1 x.c.tk.length c1, .slice a2 x.q.length c2, .slice a3 x.t.length c3, .slice a4 x.d.length c4, .slice a5 x.g.length c5, .int .i64 x.s]
theorem NewIn.solid {lo hi : Nat} {w : World} {a : Option Addr} {l : List (Int × ByteArray)} (h : NewIn lo hi w a l) : Solid lo hi (fun W => NewIn lo hi W a l) w := by
 intro W' hs hk
 rcases h with h | ⟨b, o, rfl, h3, h4, hlt, hf, hc⟩
 ·exact .inl h
 ·have hb := hk b h3 h4
  exact .inr ⟨b, o, rfl, h3, h4, Nat.lt_of_lt_of_le hlt hs, fun j hj => (World.frozen?_of_block (a := ⟨b, _, none⟩) hb).trans (hf j hj), fun i x hi => ⟨(World.cell?_of_block (a := ⟨b, _, none⟩) hb).trans (hc i x hi).1, (World.cell?_of_block (a := ⟨b, _, none⟩) hb).trans (hc i x hi).2⟩⟩
def NdIn (W : World) (a1 a2 a3 a4 a5 : Option Addr) (x : Nd) : Prop := NumsIn W a1 x.c.tk ∧ CansIn W a2 x.q ∧ RsIn seL 7 W a3 x.t ∧ RsIn dvL 10 W a4 x.d ∧ RsIn gtL 3 W a5 x.g
def NdNew (lo hi : Nat) (W : World) (a1 a2 a3 a4 a5 : Option Addr) (x : Nd) : Prop :=
 ∃ l1 h1 l2 h2 l3 h3 l4 h4 l5 h5, (lo ≤ l1 ∧ l1 ≤ h1 ∧ h1 ≤ hi) ∧ (lo ≤ l2 ∧ l2 ≤ h2 ∧ h2 ≤ hi) ∧ (lo ≤ l3 ∧ l3 ≤ h3 ∧ h3 ≤ hi) ∧ (lo ≤ l4 ∧ l4 ≤ h4 ∧ h4 ≤ hi) ∧ (lo ≤ l5 ∧ l5 ≤ h5 ∧ h5 ≤ hi) ∧ (h1 ≤ l2 ∨ h2 ≤ l1) ∧ (h1 ≤ l3 ∨ h3 ≤ l1) ∧ (h1 ≤ l4 ∨ h4 ≤ l1) ∧ (h1 ≤ l5 ∨ h5 ≤ l1) ∧ (h2 ≤ l3 ∨ h3 ≤ l2) ∧ (h2 ≤ l4 ∨ h4 ≤ l2) ∧ (h2 ≤ l5 ∨ h5 ≤ l2) ∧ (h3 ≤ l4 ∨ h4 ≤ l3) ∧ (h3 ≤ l5 ∨ h5 ≤ l3) ∧ (h4 ≤ l5 ∨ h5 ≤ l4) ∧ NumsNew l1 h1 W a1 x.c.tk ∧ NewIn l2 h2 W a2 x.q ∧ RsNew seL 7 159 l3 h3 W a3 x.t ∧ RsNew dvL 10 162 l4 h4 W a4 x.d ∧ RsNew gtL 3 144 l5 h5 W a5 x.g
section
variable {lo hi lo' hi' : Nat} {w w' : World} {a1 a2 a3 a4 a5 : Option Addr} {x : Nd}
theorem NdIn.kept (h : NdIn w a1 a2 a3 a4 a5 x) (hb : Below w.heap.size w w') : NdIn w' a1 a2 a3 a4 a5 x := ⟨h.1.kept hb, h.2.1.kept hb, h.2.2.1.kept hb, h.2.2.2.1.kept hb, h.2.2.2.2.kept hb⟩
theorem NdNew.ins (k : NdNew lo hi w a1 a2 a3 a4 a5 x) : NdIn w a1 a2 a3 a4 a5 x := by
 obtain ⟨l1, h1, l2, h2, l3, h3, l4, h4, l5, h5, b1, b2, b3, b4, b5, d12, d13, d14, d15, d23, d24, d25, d34, d35, d45, k1, k2, k3, k4, k5⟩ := k
 exact ⟨k1.nums, k2.cans, k3.ins, k4.ins, k5.ins⟩
theorem NdNew.solid (k : NdNew lo hi w a1 a2 a3 a4 a5 x) : Solid lo hi (fun W => NdNew lo hi W a1 a2 a3 a4 a5 x) w := by
 obtain ⟨l1, h1, l2, h2, l3, h3, l4, h4, l5, h5, b1, b2, b3, b4, b5, d12, d13, d14, d15, d23, d24, d25, d34, d35, d45, k1, k2, k3, k4, k5⟩ := k
 intro W' hs hk
 exact ⟨l1, h1, l2, h2, l3, h3, l4, h4, l5, h5, b1, b2, b3, b4, b5, d12, d13, d14, d15, d23, d24, d25, d34, d35, d45, k1.solid W' hs (fun k a b => hk k (by omega) (by omega)), k2.solid W' hs (fun k a b => hk k (by omega) (by omega)), k3.solid W' hs (fun k a b => hk k (by omega) (by omega)), k4.solid W' hs (fun k a b => hk k (by omega) (by omega)), k5.solid W' hs (fun k a b => hk k (by omega) (by omega))⟩
theorem NdNew.kept (k : NdNew lo hi w a1 a2 a3 a4 a5 x) (hb : Below w.heap.size w w') : NdNew lo hi w' a1 a2 a3 a4 a5 x := by
 obtain ⟨l1, h1, l2, h2, l3, h3, l4, h4, l5, h5, b1, b2, b3, b4, b5, d12, d13, d14, d15, d23, d24, d25, d34, d35, d45, k1, k2, k3, k4, k5⟩ := k
 exact ⟨l1, h1, l2, h2, l3, h3, l4, h4, l5, h5, b1, b2, b3, b4, b5, d12, d13, d14, d15, d23, d24, d25, d34, d35, d45, k1.kept hb, k2.kept hb, k3.kept hb, k4.kept hb, k5.kept hb⟩
theorem NdNew.wide (k : NdNew lo hi w a1 a2 a3 a4 a5 x) (g1 : lo' ≤ lo) (g2 : hi ≤ hi') : NdNew lo' hi' w a1 a2 a3 a4 a5 x := by
 obtain ⟨l1, h1, l2, h2, l3, h3, l4, h4, l5, h5, b1, b2, b3, b4, b5, d12, d13, d14, d15, d23, d24, d25, d34, d35, d45, k1, k2, k3, k4, k5⟩ := k
 exact ⟨l1, h1, l2, h2, l3, h3, l4, h4, l5, h5, by omega, by omega, by omega, by omega, by omega, d12, d13, d14, d15, d23, d24, d25, d34, d35, d45, k1, k2, k3, k4, k5⟩
end
def IsNd (w : World) (v : Value) : Prop := ∃ (x : Nd) (a1 a2 a3 a4 a5 : Option Addr) (c1 c2 c3 c4 c5 : Nat), v = ndV x a1 a2 a3 a4 a5 c1 c2 c3 c4 c5 ∧ NdIn w a1 a2 a3 a4 a5 x ∧
 ((I64 x.c.ad ∧ I64 x.c.st ∧ I64 x.c.lf ∧ I64 x.s ∧ Nums64 x.c.tk) ∧ CansOk x.q ∧ SesOk x.t ∧ (∀ y ∈ x.d, DvOk y) ∧ (∀ y ∈ x.g, GtOk y)) ∧
 (x.c.tk.length ≤ maxLen ∧ x.q.length ≤ maxLen ∧ x.t.length ≤ maxLen ∧ x.d.length ≤ maxLen ∧ x.g.length ≤ maxLen)
section
variable {H : Type} {enc : TypeId × Value → H} {w : World} {base : Nat} {spare : Nat → Bool} {held : Bool} {b0 : Nat} {r : Reach} {v : Value} {d : DataW H} {ps : List MemPlace}
theorem cells_Nd : Tryz.prog.cellsOf 34 = 17 := by kernel_rfl
theorem cells_NdS : Tryz.prog.cellsOf 30 = 1 := by kernel_rfl
theorem cells_NdD : Tryz.prog.cellsOf 31 = 1 := by kernel_rfl
theorem cells_NdG : Tryz.prog.cellsOf 32 = 1 := by kernel_rfl
theorem list6 {α : Type} {l : List α} (h : l.length = 6) : ∃ x0 x1 x2 x3 x4 x5, l = [x0, x1, x2, x3, x4, x5] := by
 match l, h with
 | [x0, x1, x2, x3, x4, x5], _ => exact ⟨x0, x1, x2, x3, x4, x5, rfl⟩
theorem list17 {α : Type} {l : List α} (h : l.length = 17) : ∃ x0 x1 x2 x3 x4 x5 x6 x7 x8 x9 y0 y1 y2 y3 y4 y5 y6, l = [x0, x1, x2, x3, x4, x5, x6, x7, x8, x9, y0, y1, y2, y3, y4, y5, y6] := by
 match l, h with
 | [x0, x1, x2, x3, x4, x5, x6, x7, x8, x9, y0, y1, y2, y3, y4, y5, y6], _ => exact ⟨x0, x1, x2, x3, x4, x5, x6, x7, x8, x9, y0, y1, y2, y3, y4, y5, y6, rfl⟩
set_option maxRecDepth 100000 in
theorem cl_of_trod {fuel : Nat} {cs : List Value} {x : DataW H × List MemPlace} (hl : cs.length = 12) (hf : DataW.trod enc Tryz.prog w base spare held fuel 26 cs = some x) :
  ∃ (c : Cl) (a : Option Addr) (cap : Nat), cs = [.int .i64 c.n.u, .int .i64 c.n.m, .int .i64 c.n.i, .int .i64 c.n.f, .int .i64 c.n.c, .int .i64 c.n.s, .int .i64 c.n.y, .bool c.n.a, .int .i64 c.ad, .int .i64 c.st, .int .i64 c.lf, .slice a c.tk.length cap] ∧ I64 c.ad ∧ I64 c.st ∧ I64 c.lf ∧ NumsIn w a c.tk ∧ Nums64 c.tk ∧ c.tk.length ≤ maxLen := by
 obtain ⟨c0, c1, c2, c3, c4, c5, c6, c7, c8, c9, c10, c11, rfl⟩ := list12 hl
 obtain ⟨xs, n, _, _, _, hlen, hall⟩ := DataW.trod_struct Tryz.underlying26 hf
 obtain ⟨y0, y1, y2, y3, y4, rfl⟩ := list5 (by simpa using hlen)
 have h0 := hall 0 _ rfl
 have h1 := hall 1 _ rfl
 have h2 := hall 2 _ rfl
 have h3 := hall 3 _ rfl
 have h4 := hall 4 _ rfl
 clear hall hf hlen
 simp [cells_Nm, cells_num, cells_nums] at h0 h1 h2 h3 h4
 obtain ⟨m, rfl, rfl, rfl, rfl, rfl, rfl, rfl, rfl, _⟩ := nm_of_trod h0
 obtain ⟨ad, e1, _, w1⟩ := DataW.trod_int Tryz.underlying2 h1
 obtain ⟨st, e2, _, w2⟩ := DataW.trod_int Tryz.underlying2 h2
 obtain ⟨lf, e3, _, w3⟩ := DataW.trod_int Tryz.underlying2 h3
 obtain ⟨a, cap, l, e4, k1, k2, k3⟩ := nums_of_trod h4
 simp at e1 e2 e3 e4
 subst e1 e2 e3 e4
 exact ⟨⟨m, ad, st, lf, l⟩, a, cap, rfl, .of_wf w1, .of_wf w2, .of_wf w3, k1, k2, k3⟩
set_option maxRecDepth 100000 in
theorem open_Nd (hv : Value.okWide Tryz.prog w r b0 34 v) (h : DataW.Trod enc Tryz.prog w base spare held 34 v d ps) : IsNd w v := by
 obtain ⟨cs, rfl, hsz⟩ := okWide_struct Tryz.underlying34 hv
 obtain ⟨ls⟩ := cs
 obtain ⟨c0, c1, c2, c3, c4, c5, c6, c7, c8, c9, c10, c11, c12, c13, c14, c15, c16, rfl⟩ := list17 ((by simpa using hsz : ls.length = _).trans cells_Nd)
 obtain ⟨fuel, hf⟩ := h
 obtain ⟨xs, n, _, _, _, hlen, hall⟩ := DataW.trod_struct Tryz.underlying34 hf
 obtain ⟨y0, y1, y2, y3, y4, y5, rfl⟩ := list6 (by simpa using hlen)
 have h0 := hall 0 _ rfl
 have h1 := hall 1 _ rfl
 have h2 := hall 2 _ rfl
 have h3 := hall 3 _ rfl
 have h4 := hall 4 _ rfl
 have h5 := hall 5 _ rfl
 clear hall hf hlen
 simp [Value.cells, cells_Cl, cells_Queue, cells_NdS, cells_NdD, cells_NdG, cells_num] at h0 h1 h2 h3 h4 h5
 obtain ⟨c, a1, cap1, e0, i1, i2, i3, p1, p2, p3⟩ := cl_of_trod rfl h0
 obtain ⟨z0, _, _, _, hq⟩ := trod_struct1 Tryz.underlying29 h1
 obtain ⟨a2, cap2, q, e1, q1, q2, q3⟩ := cans_of_trod hq
 obtain ⟨a3, cap3, t, e2, r1, r2, r3⟩ := ses_of_trod h2
 obtain ⟨a4, cap4, dl, e3, s1, s2, s3⟩ := Dvs_of_trod h3
 obtain ⟨a5, cap5, g, e4, t1, t2, t3⟩ := Gts_of_trod h4
 obtain ⟨sq, e5, _, w5⟩ := DataW.trod_int Tryz.underlying2 h5
 simp [cells_CanS] at e0 e1 e2 e3 e4 e5
 obtain ⟨rfl, rfl, rfl, rfl, rfl, rfl, rfl, rfl, rfl, rfl, rfl, rfl⟩ := e0
 subst e1 e2 e3 e4 e5
 exact ⟨⟨c, q, t, dl, g, sq⟩, a1, a2, a3, a4, a5, cap1, cap2, cap3, cap4, cap5, rfl, ⟨p1, q1, r1, s1, t1⟩, ⟨⟨i1, i2, i3, .of_wf w5, p2⟩, q2, r2, s2, t2⟩, p3, q3, r3, s3, t3⟩
end
end Go.Proofs.YtioldepgoodipaaGreat
namespace Go.Proofs.YtioldepgoodipaaGreat
open Go.RowKit
set_option linter.unusedVariables false

def clV (n : Nm) (ad st lf : Int) (v : Value) : Value := .agg #[.int .i64 n.u, .int .i64 n.m, .int .i64 n.i, .int .i64 n.f, .int .i64 n.c, .int .i64 n.s, .int .i64 n.y, .bool n.a, .int .i64 ad, .int .i64 st, .int .i64 lf, v]
def pvI (l : List Int) (k : Nat) : Int := if k = 0 then -1 else numAt l (k - 1)
theorem riseB_step {l : List Int} {k : Nat} (h : k < l.length) : riseB (pvI l k) (l.drop k) = (inB 0 251 (numAt l k) && (decide (pvI l k < numAt l k) && riseB (pvI l (k + 1)) (l.drop (k + 1)))) := by
 have e : l.drop k = numAt l k :: l.drop (k + 1) := by
  rw [List.drop_eq_getElem_cons h]
  congr 1
  unfold numAt
  rw [List.getElem?_eq_getElem h]
  rfl
 rw [e]
 show (inB 0 251 (numAt l k) && (decide (pvI l k < numAt l k) && riseB (numAt l k) (l.drop (k + 1)))) = _
 have e2 : pvI l (k + 1) = numAt l k := by simp [pvI]
 rw [e2]

theorem l05Addr_any (x : Int) (w : World) :
  Calls Tryz.prog 152 #[.int .i64 x] w fun e w' => e = .returned (.bool (inB 0 251 x)) ∧ w = w' := by
 go_enter Tryz.func152, Tryz.ntmps152
 go_wp2_with fail
 refine (l02Is_any _ _ _ _).mono ?_
 rintro e w' ⟨rfl, rfl⟩
 go_wp2
 go_ret
 exact ⟨rfl, rfl⟩
set_option maxRecDepth 100000 in
set_option maxHeartbeats 4000000 in
theorem specClaimRight_any (n : Nm) (ad st lf : Int) (a : Option Addr) (cap : Nat) (l : List Int) (w : World) (h : NumsIn w a l) (hlen : l.length ≤ 1048576) :
  Calls Tryz.prog 78 #[clV n ad st lf (.slice a l.length cap)] w fun e w' => e = .returned (.bool (clB ⟨n, ad, st, lf, l⟩)) ∧ Below w.heap.size w w' := by
 have HN := fun W => Lib.hid (specNameOk_any n W)
 have HA := fun x W => Lib.hid (l05Addr_any x W)
 obtain ⟨R, hR⟩ : ∃ R, clB ⟨n, ad, st, lf, l⟩ = R := ⟨_, rfl⟩
 have HR := Lib.hid (show (okB n && (decide (l.length ≤ 252) && (riseB (-1) l && stateB ⟨n, ad, st, lf, l⟩))) = R from hR)
 rw [hR]
 clear hR
 rcases ho : okB n
 ·rw [ho] at HR HN
  have HO := Lib.hid (show R = false from HR.out.symm.trans rfl)
  clear HR ho
  obtain ⟨n0, n1, n2, n3, n4, n5, n6, n7⟩ := n
  unfold clV
  unfold nmV at HN
  dsimp only at *
  go_enter Tryz.func78, Tryz.ntmps78
  go_wp2_with fail
  refine (HN _).out.mono ?_
  rintro e w1 ⟨rfl, h1⟩
  go_wp2
  go_ret
  exact ⟨by rw [HO.out]; rfl, ((Below.refl _ _).alloc (Nat.le_refl _) _).trans (h1.mono (by simp))⟩
 rw [ho] at HR HN
 have HS := Lib.hid (show stateB ⟨n, ad, st, lf, l⟩ = (if st = 1 then inB 0 251 ad && inB 1 250 lf else if st = 2 then inB 0 251 ad && decide (lf = 0) else if st = 3 then decide (ad = 254) && decide (lf = 0) else false) from rfl)
 have hI := h
 obtain ⟨n0, n1, n2, n3, n4, n5, n6, n7⟩ := n
 generalize stateB ⟨⟨n0, n1, n2, n3, n4, n5, n6, n7⟩, ad, st, lf, l⟩ = S at *
 clear ho
 unfold clV
 unfold nmV at HN
 dsimp only at *
 by_cases hbig : 252 < l.length
 ·have HO := Lib.hid (show R = false by rw [← HR.out]; simp; omega)
  have hd : decide ((252 : Int) < (l.length : Int)) = true := decide_eq_true (by omega)
  clear HR
  go_enter Tryz.func78, Tryz.ntmps78
  go_wp2_with fail
  refine (HN _).out.mono ?_
  rintro e w1 ⟨rfl, h1⟩
  obtain ⟨c1, f1⟩ := bcell h1
  have z1 : w.heap.size < w1.heap.size := by have := h1.size; simp at this; omega
  go_wp2
  go_ret
  exact ⟨by rw [HO.out]; rfl, ((Below.refl _ _).alloc (Nat.le_refl _) _).trans (h1.mono (by simp))⟩
 have hd : decide ((252 : Int) < (l.length : Int)) = false := decide_eq_false (by omega)
 have HR2 := Lib.hid (show (riseB (-1) l && S) = R by rw [← HR.out]; simp [show l.length ≤ 252 by omega])
 clear HR hbig
 obtain ⟨N, hN⟩ : ∃ N, l.length = N := ⟨_, rfl⟩
 have HNl := Lib.hid hN
 rw [hN] at hlen hd ⊢
 clear hN h
 have HI := Lib.hid hI
 clear hI
 go_enter Tryz.func78, Tryz.ntmps78
 go_wp2_with fail
 refine (HN _).out.mono ?_
 rintro e w1 ⟨rfl, h1⟩
 have b1 : Below w.heap.size w w1 := ((Below.refl _ _).alloc (Nat.le_refl _) _).trans (h1.mono (by simp))
 have hR1 : w1.heap[w.heap.size]? = some (.cells #[.int .i64 n0, .int .i64 n1, .int .i64 n2, .int .i64 n3, .int .i64 n4, .int .i64 n5, .int .i64 n6, .bool n7, .int .i64 ad, .int .i64 st, .int .i64 lf, .slice a N cap] 40 (0, 0)) := (h1.block _ (by simp)).trans (heap_alloc_new w _)
 have HR1 := Lib.hid hR1
 have cS := cell_of_row w1 w.heap.size 11 _ _ (0, 0) hR1
 simp at cS
 clear hR1 h1 HN
 go_wp2_with fail
 clear cS
 go_loopw [3] (fun i wr => ∃ k : Nat, i = .int .i64 (k : Int) ∧ k ≤ N ∧ (riseB (pvI l k) (l.drop k) && S) = R ∧ wr.heap[w.heap.size]? = some (.cells #[.int .i64 n0, .int .i64 n1, .int .i64 n2, .int .i64 n3, .int .i64 n4, .int .i64 n5, .int .i64 n6, .bool n7, .int .i64 ad, .int .i64 st, .int .i64 lf, .slice a N cap] 40 (0, 0)) ∧ Below w.heap.size w wr) (fun i _ => N - (intOf i).toNat)
 case atStart => exact ⟨0, rfl, by omega, HR2.out, HR1.out, b1⟩
 case round =>
  obtain ⟨k, rfl, hk, hr, hh, hb⟩ := hrel
  have HH := Lib.hid hh
  have HRk := Lib.hid hr
  have cS := cell_of_row wr w.heap.size 11 _ _ (0, 0) hh
  simp at cS
  clear hr HR1 HR2 b1
  by_cases hkn : k < N
  ·have hkl : k < l.length := by have := HNl.out; omega
   have HT := Lib.hid (riseB_step hkl)
   obtain ⟨b, o, rfl, hlt, hc⟩ := HI.out.at (by omega)
   have d0 := (hb.cell (p := ⟨b, _, none⟩) hlt).trans (hc k _ (numAt_some hkl))
   have hi1 : (0 : Int) ≤ (k : Int) := by omega
   have hi2 : (k : Int) < (N : Int) := by omega
   have HAx := fun W => Lib.hid (HA (numAt l k) W).out
   have lR : w.heap.size < wr.heap.size := heap_lt hh
   have lB : b < wr.heap.size := Nat.lt_of_lt_of_le hlt hb.size
   have hx : pvI l (k + 1) = numAt l k := by simp [pvI]
   rcases hin : inB 0 251 (numAt l k)
   ·have HO := Lib.hid (show R = false by rw [← HRk.out, HT.out, hin]; rfl)
    rw [hin] at HAx
    generalize numAt l k = x at *
    clear HT hin hc HRk hh hx
    go_wp2_with fail
    refine wp_region_quiet (C := fun W => Below wr.heap.size wr W) (by kernel_rfl) (by kernel_rfl) (Below.refl _ _).drew ?_
    dsimp only
    go_big_quiet_want; go_big_quiet_op; first | go_big_quiet_on | (refine ⟨_, fun _ _ => rfl, ?_⟩; go_big_quiet_on)
    go_big_quiet_want; refine ⟨.slice (some ⟨b, o, none⟩) N cap, fun W hW => (by have y0 := (hW.cell (p := ⟨w.heap.size, _, none⟩) lR).trans cS; simp [Oper.quietAt, Oper.quietUpon, go_sem, y0]), ?_⟩; simp only [Act.put, List.setIfInBounds_toArray, List.set_cons_zero, List.set_cons_succ]; go_big_quiet_on
    iterate 2 (go_big_quiet_want; go_big_quiet_op; first | go_big_quiet_on | (refine ⟨_, fun _ _ => rfl, ?_⟩; go_big_quiet_on))
    go_big_quiet_want; refine ⟨.int .i64 x, fun W hW => (by have y0 := (hW.cell (p := ⟨b, _, none⟩) lB).trans d0; simp [Oper.quietAt, Oper.quietUpon, go_sem, y0]), ?_⟩; simp only [Act.put, List.setIfInBounds_toArray, List.set_cons_zero, List.set_cons_succ]; go_big_quiet_on
    go_big_quiet_want; go_big_quiet_op; refine ⟨_, fun W hW => quietSame hW (HAx W).out, ?_⟩; go_big_quiet_on
    iterate 2 (go_big_quiet_want; go_big_quiet_op; first | go_big_quiet_on | (refine ⟨_, fun _ _ => rfl, ?_⟩; go_big_quiet_on))
    iterate 4 (first | go_big_quiet_skip | (go_big_quiet_want; go_big_quiet_op; first | go_big_quiet_on | (refine ⟨_, fun _ _ => rfl, ?_⟩; go_big_quiet_on)))
    first | go_big_quiet_skip | (go_big_quiet_want; refine ⟨.slice (some ⟨b, o, none⟩) N cap, fun W hW => (by have y0 := (hW.cell (p := ⟨w.heap.size, _, none⟩) lR).trans cS; simp [Oper.quietAt, Oper.quietUpon, go_sem, y0]), ?_⟩; simp only [Act.put, List.setIfInBounds_toArray, List.set_cons_zero, List.set_cons_succ]; go_big_quiet_on)
    iterate 3 (first | go_big_quiet_skip | (go_big_quiet_want; go_big_quiet_op; first | go_big_quiet_on | (refine ⟨_, fun _ _ => rfl, ?_⟩; go_big_quiet_on)))
    first | go_big_quiet_skip | (go_big_quiet_want; refine ⟨.int .i64 y, fun W hW => (by have y0 := (hW.cell (p := ⟨b, _, none⟩) lB).trans d1; simp [Oper.quietAt, Oper.quietUpon, go_sem, y0]), ?_⟩; simp only [Act.put, List.setIfInBounds_toArray, List.set_cons_zero, List.set_cons_succ]; go_big_quiet_on)
    first | go_big_quiet_skip | (go_big_quiet_want; go_big_quiet_op; first | go_big_quiet_on | (refine ⟨_, fun _ _ => rfl, ?_⟩; go_big_quiet_on))
    first | go_big_quiet_skip | (go_big_quiet_want; refine ⟨.slice (some ⟨b, o, none⟩) N cap, fun W hW => (by have y0 := (hW.cell (p := ⟨w.heap.size, _, none⟩) lR).trans cS; simp [Oper.quietAt, Oper.quietUpon, go_sem, y0]), ?_⟩; simp only [Act.put, List.setIfInBounds_toArray, List.set_cons_zero, List.set_cons_succ]; go_big_quiet_on)
    iterate 2 (first | go_big_quiet_skip | (go_big_quiet_want; go_big_quiet_op; first | go_big_quiet_on | (refine ⟨_, fun _ _ => rfl, ?_⟩; go_big_quiet_on)))
    first | go_big_quiet_skip | (go_big_quiet_want; refine ⟨.int .i64 x, fun W hW => (by have y0 := (hW.cell (p := ⟨b, _, none⟩) lB).trans d0; simp [Oper.quietAt, Oper.quietUpon, go_sem, y0]), ?_⟩; simp only [Act.put, List.setIfInBounds_toArray, List.set_cons_zero, List.set_cons_succ]; go_big_quiet_on)
    iterate 2 (first | go_big_quiet_skip | (go_big_quiet_want; go_big_quiet_op; first | go_big_quiet_on | (refine ⟨_, fun _ _ => rfl, ?_⟩; go_big_quiet_on)))
    go_big_quiet_want; go_big_quiet_op; first | go_big_quiet_on | (refine ⟨_, fun _ _ => rfl, ?_⟩; go_big_quiet_on)
    refine wpQuiet_nil ?_
    intro X hX
    go_wp2
    go_ret
    exact ⟨by rw [HO.out]; rfl, hb.trans (hX.mono hb.size)⟩
   rw [hin] at HAx
   rcases k with _ | m
   ·have HNX := Lib.hid (show (riseB (pvI l (0 + 1)) (l.drop (0 + 1)) && S) = R by
     rw [← HRk.out, HT.out, hin]
     have := (inB_of hin).1
     simp [pvI, show (-1 : Int) < numAt l 0 by omega])
    have e0 : decide ((0 : Int) < ((0 : Nat) : Int)) = false := rfl
    rw [Nat.add_zero] at d0
    generalize numAt l 0 = x at *
    clear HT hin hc HRk hh hx
    go_wp2_with fail
    refine wp_region_quiet (C := fun W => Below wr.heap.size wr W) (by kernel_rfl) (by kernel_rfl) (Below.refl _ _).drew ?_
    dsimp only
    go_big_quiet_want; go_big_quiet_op; first | go_big_quiet_on | (refine ⟨_, fun _ _ => rfl, ?_⟩; go_big_quiet_on)
    go_big_quiet_want; refine ⟨.slice (some ⟨b, o, none⟩) N cap, fun W hW => (by have y0 := (hW.cell (p := ⟨w.heap.size, _, none⟩) lR).trans cS; simp [Oper.quietAt, Oper.quietUpon, go_sem, y0]), ?_⟩; simp only [Act.put, List.setIfInBounds_toArray, List.set_cons_zero, List.set_cons_succ]; go_big_quiet_on
    iterate 2 (go_big_quiet_want; go_big_quiet_op; first | go_big_quiet_on | (refine ⟨_, fun _ _ => rfl, ?_⟩; go_big_quiet_on))
    go_big_quiet_want; refine ⟨.int .i64 x, fun W hW => (by have y0 := (hW.cell (p := ⟨b, _, none⟩) lB).trans d0; simp [Oper.quietAt, Oper.quietUpon, go_sem, y0]), ?_⟩; simp only [Act.put, List.setIfInBounds_toArray, List.set_cons_zero, List.set_cons_succ]; go_big_quiet_on
    go_big_quiet_want; go_big_quiet_op; refine ⟨_, fun W hW => quietSame hW (HAx W).out, ?_⟩; go_big_quiet_on
    iterate 2 (go_big_quiet_want; go_big_quiet_op; first | go_big_quiet_on | (refine ⟨_, fun _ _ => rfl, ?_⟩; go_big_quiet_on))
    iterate 4 (first | go_big_quiet_skip | (go_big_quiet_want; go_big_quiet_op; first | go_big_quiet_on | (refine ⟨_, fun _ _ => rfl, ?_⟩; go_big_quiet_on)))
    first | go_big_quiet_skip | (go_big_quiet_want; refine ⟨.slice (some ⟨b, o, none⟩) N cap, fun W hW => (by have y0 := (hW.cell (p := ⟨w.heap.size, _, none⟩) lR).trans cS; simp [Oper.quietAt, Oper.quietUpon, go_sem, y0]), ?_⟩; simp only [Act.put, List.setIfInBounds_toArray, List.set_cons_zero, List.set_cons_succ]; go_big_quiet_on)
    iterate 3 (first | go_big_quiet_skip | (go_big_quiet_want; go_big_quiet_op; first | go_big_quiet_on | (refine ⟨_, fun _ _ => rfl, ?_⟩; go_big_quiet_on)))
    first | go_big_quiet_skip | (go_big_quiet_want; refine ⟨.int .i64 y, fun W hW => (by have y0 := (hW.cell (p := ⟨b, _, none⟩) lB).trans d1; simp [Oper.quietAt, Oper.quietUpon, go_sem, y0]), ?_⟩; simp only [Act.put, List.setIfInBounds_toArray, List.set_cons_zero, List.set_cons_succ]; go_big_quiet_on)
    first | go_big_quiet_skip | (go_big_quiet_want; go_big_quiet_op; first | go_big_quiet_on | (refine ⟨_, fun _ _ => rfl, ?_⟩; go_big_quiet_on))
    first | go_big_quiet_skip | (go_big_quiet_want; refine ⟨.slice (some ⟨b, o, none⟩) N cap, fun W hW => (by have y0 := (hW.cell (p := ⟨w.heap.size, _, none⟩) lR).trans cS; simp [Oper.quietAt, Oper.quietUpon, go_sem, y0]), ?_⟩; simp only [Act.put, List.setIfInBounds_toArray, List.set_cons_zero, List.set_cons_succ]; go_big_quiet_on)
    iterate 2 (first | go_big_quiet_skip | (go_big_quiet_want; go_big_quiet_op; first | go_big_quiet_on | (refine ⟨_, fun _ _ => rfl, ?_⟩; go_big_quiet_on)))
    first | go_big_quiet_skip | (go_big_quiet_want; refine ⟨.int .i64 x, fun W hW => (by have y0 := (hW.cell (p := ⟨b, _, none⟩) lB).trans d0; simp [Oper.quietAt, Oper.quietUpon, go_sem, y0]), ?_⟩; simp only [Act.put, List.setIfInBounds_toArray, List.set_cons_zero, List.set_cons_succ]; go_big_quiet_on)
    iterate 2 (first | go_big_quiet_skip | (go_big_quiet_want; go_big_quiet_op; first | go_big_quiet_on | (refine ⟨_, fun _ _ => rfl, ?_⟩; go_big_quiet_on)))
    go_big_quiet_want; go_big_quiet_op; first | go_big_quiet_on | (refine ⟨_, fun _ _ => rfl, ?_⟩; go_big_quiet_on)
    refine wpQuiet_nil ?_
    intro X hX
    go_wp2
    go_roundw
    case rel => exact ⟨0 + 1, by go_num, by omega, HNX.out, (hX.block _ lR).trans HH.out, hb.trans (hX.mono hb.size)⟩
    case measure => simp [intOf]; omega
   ·have d1 := (hb.cell (p := ⟨b, _, none⟩) hlt).trans (hc m _ (numAt_some (by omega)))
    have hp : pvI l (m + 1) = numAt l m := by simp [pvI]
    have e0 : decide ((0 : Int) < ((m + 1 : Nat) : Int)) = true := decide_eq_true (by omega)
    have e1 : (((m + 1 : Nat) : Int) - 1) = (m : Int) := by omega
    by_cases hlt' : numAt l m < numAt l (m + 1)
    ·have HNX := Lib.hid (show (riseB (pvI l (m + 1 + 1)) (l.drop (m + 1 + 1)) && S) = R by
      rw [← HRk.out, HT.out, hin, hp]
      simp [hlt'])
     have e2 : decide (numAt l (m + 1) ≤ numAt l m) = false := decide_eq_false (by omega)
     generalize numAt l (m + 1) = x at *
     generalize numAt l m = y at *
     clear HT hin hc HRk hh hx hp hlt'
     go_wp2_with fail
     refine wp_region_quiet (C := fun W => Below wr.heap.size wr W) (by kernel_rfl) (by kernel_rfl) (Below.refl _ _).drew ?_
     dsimp only
     go_big_quiet_want; go_big_quiet_op; first | go_big_quiet_on | (refine ⟨_, fun _ _ => rfl, ?_⟩; go_big_quiet_on)
     go_big_quiet_want; refine ⟨.slice (some ⟨b, o, none⟩) N cap, fun W hW => (by have y0 := (hW.cell (p := ⟨w.heap.size, _, none⟩) lR).trans cS; simp [Oper.quietAt, Oper.quietUpon, go_sem, y0]), ?_⟩; simp only [Act.put, List.setIfInBounds_toArray, List.set_cons_zero, List.set_cons_succ]; go_big_quiet_on
     iterate 2 (go_big_quiet_want; go_big_quiet_op; first | go_big_quiet_on | (refine ⟨_, fun _ _ => rfl, ?_⟩; go_big_quiet_on))
     go_big_quiet_want; refine ⟨.int .i64 x, fun W hW => (by have y0 := (hW.cell (p := ⟨b, _, none⟩) lB).trans d0; simp [Oper.quietAt, Oper.quietUpon, go_sem, y0]), ?_⟩; simp only [Act.put, List.setIfInBounds_toArray, List.set_cons_zero, List.set_cons_succ]; go_big_quiet_on
     go_big_quiet_want; go_big_quiet_op; refine ⟨_, fun W hW => quietSame hW (HAx W).out, ?_⟩; go_big_quiet_on
     iterate 2 (go_big_quiet_want; go_big_quiet_op; first | go_big_quiet_on | (refine ⟨_, fun _ _ => rfl, ?_⟩; go_big_quiet_on))
     iterate 4 (first | go_big_quiet_skip | (go_big_quiet_want; go_big_quiet_op; first | go_big_quiet_on | (refine ⟨_, fun _ _ => rfl, ?_⟩; go_big_quiet_on)))
     first | go_big_quiet_skip | (go_big_quiet_want; refine ⟨.slice (some ⟨b, o, none⟩) N cap, fun W hW => (by have y0 := (hW.cell (p := ⟨w.heap.size, _, none⟩) lR).trans cS; simp [Oper.quietAt, Oper.quietUpon, go_sem, y0]), ?_⟩; simp only [Act.put, List.setIfInBounds_toArray, List.set_cons_zero, List.set_cons_succ]; go_big_quiet_on)
     iterate 3 (first | go_big_quiet_skip | (go_big_quiet_want; go_big_quiet_op; first | go_big_quiet_on | (refine ⟨_, fun _ _ => rfl, ?_⟩; go_big_quiet_on)))
     first | go_big_quiet_skip | (go_big_quiet_want; refine ⟨.int .i64 y, fun W hW => (by have y0 := (hW.cell (p := ⟨b, _, none⟩) lB).trans d1; simp [Oper.quietAt, Oper.quietUpon, go_sem, y0]), ?_⟩; simp only [Act.put, List.setIfInBounds_toArray, List.set_cons_zero, List.set_cons_succ]; go_big_quiet_on)
     first | go_big_quiet_skip | (go_big_quiet_want; go_big_quiet_op; first | go_big_quiet_on | (refine ⟨_, fun _ _ => rfl, ?_⟩; go_big_quiet_on))
     first | go_big_quiet_skip | (go_big_quiet_want; refine ⟨.slice (some ⟨b, o, none⟩) N cap, fun W hW => (by have y0 := (hW.cell (p := ⟨w.heap.size, _, none⟩) lR).trans cS; simp [Oper.quietAt, Oper.quietUpon, go_sem, y0]), ?_⟩; simp only [Act.put, List.setIfInBounds_toArray, List.set_cons_zero, List.set_cons_succ]; go_big_quiet_on)
     iterate 2 (first | go_big_quiet_skip | (go_big_quiet_want; go_big_quiet_op; first | go_big_quiet_on | (refine ⟨_, fun _ _ => rfl, ?_⟩; go_big_quiet_on)))
     first | go_big_quiet_skip | (go_big_quiet_want; refine ⟨.int .i64 x, fun W hW => (by have y0 := (hW.cell (p := ⟨b, _, none⟩) lB).trans d0; simp [Oper.quietAt, Oper.quietUpon, go_sem, y0]), ?_⟩; simp only [Act.put, List.setIfInBounds_toArray, List.set_cons_zero, List.set_cons_succ]; go_big_quiet_on)
     iterate 2 (first | go_big_quiet_skip | (go_big_quiet_want; go_big_quiet_op; first | go_big_quiet_on | (refine ⟨_, fun _ _ => rfl, ?_⟩; go_big_quiet_on)))
     go_big_quiet_want; go_big_quiet_op; first | go_big_quiet_on | (refine ⟨_, fun _ _ => rfl, ?_⟩; go_big_quiet_on)
     refine wpQuiet_nil ?_
     intro X hX
     go_wp2
     go_roundw
     case rel => exact ⟨m + 1 + 1, by go_num, by omega, HNX.out, (hX.block _ lR).trans HH.out, hb.trans (hX.mono hb.size)⟩
     case measure => simp [intOf]; omega
    ·have HO := Lib.hid (show R = false by rw [← HRk.out, HT.out, hin, hp]; simp [hlt'])
     have e2 : decide (numAt l (m + 1) ≤ numAt l m) = true := decide_eq_true (by omega)
     generalize numAt l (m + 1) = x at *
     generalize numAt l m = y at *
     clear HT hin hc HRk hh hx hp hlt'
     go_wp2_with fail
     refine wp_region_quiet (C := fun W => Below wr.heap.size wr W) (by kernel_rfl) (by kernel_rfl) (Below.refl _ _).drew ?_
     dsimp only
     go_big_quiet_want; go_big_quiet_op; first | go_big_quiet_on | (refine ⟨_, fun _ _ => rfl, ?_⟩; go_big_quiet_on)
     go_big_quiet_want; refine ⟨.slice (some ⟨b, o, none⟩) N cap, fun W hW => (by have y0 := (hW.cell (p := ⟨w.heap.size, _, none⟩) lR).trans cS; simp [Oper.quietAt, Oper.quietUpon, go_sem, y0]), ?_⟩; simp only [Act.put, List.setIfInBounds_toArray, List.set_cons_zero, List.set_cons_succ]; go_big_quiet_on
     iterate 2 (go_big_quiet_want; go_big_quiet_op; first | go_big_quiet_on | (refine ⟨_, fun _ _ => rfl, ?_⟩; go_big_quiet_on))
     go_big_quiet_want; refine ⟨.int .i64 x, fun W hW => (by have y0 := (hW.cell (p := ⟨b, _, none⟩) lB).trans d0; simp [Oper.quietAt, Oper.quietUpon, go_sem, y0]), ?_⟩; simp only [Act.put, List.setIfInBounds_toArray, List.set_cons_zero, List.set_cons_succ]; go_big_quiet_on
     go_big_quiet_want; go_big_quiet_op; refine ⟨_, fun W hW => quietSame hW (HAx W).out, ?_⟩; go_big_quiet_on
     iterate 2 (go_big_quiet_want; go_big_quiet_op; first | go_big_quiet_on | (refine ⟨_, fun _ _ => rfl, ?_⟩; go_big_quiet_on))
     iterate 4 (first | go_big_quiet_skip | (go_big_quiet_want; go_big_quiet_op; first | go_big_quiet_on | (refine ⟨_, fun _ _ => rfl, ?_⟩; go_big_quiet_on)))
     first | go_big_quiet_skip | (go_big_quiet_want; refine ⟨.slice (some ⟨b, o, none⟩) N cap, fun W hW => (by have y0 := (hW.cell (p := ⟨w.heap.size, _, none⟩) lR).trans cS; simp [Oper.quietAt, Oper.quietUpon, go_sem, y0]), ?_⟩; simp only [Act.put, List.setIfInBounds_toArray, List.set_cons_zero, List.set_cons_succ]; go_big_quiet_on)
     iterate 3 (first | go_big_quiet_skip | (go_big_quiet_want; go_big_quiet_op; first | go_big_quiet_on | (refine ⟨_, fun _ _ => rfl, ?_⟩; go_big_quiet_on)))
     first | go_big_quiet_skip | (go_big_quiet_want; refine ⟨.int .i64 y, fun W hW => (by have y0 := (hW.cell (p := ⟨b, _, none⟩) lB).trans d1; simp [Oper.quietAt, Oper.quietUpon, go_sem, y0]), ?_⟩; simp only [Act.put, List.setIfInBounds_toArray, List.set_cons_zero, List.set_cons_succ]; go_big_quiet_on)
     first | go_big_quiet_skip | (go_big_quiet_want; go_big_quiet_op; first | go_big_quiet_on | (refine ⟨_, fun _ _ => rfl, ?_⟩; go_big_quiet_on))
     first | go_big_quiet_skip | (go_big_quiet_want; refine ⟨.slice (some ⟨b, o, none⟩) N cap, fun W hW => (by have y0 := (hW.cell (p := ⟨w.heap.size, _, none⟩) lR).trans cS; simp [Oper.quietAt, Oper.quietUpon, go_sem, y0]), ?_⟩; simp only [Act.put, List.setIfInBounds_toArray, List.set_cons_zero, List.set_cons_succ]; go_big_quiet_on)
     iterate 2 (first | go_big_quiet_skip | (go_big_quiet_want; go_big_quiet_op; first | go_big_quiet_on | (refine ⟨_, fun _ _ => rfl, ?_⟩; go_big_quiet_on)))
     first | go_big_quiet_skip | (go_big_quiet_want; refine ⟨.int .i64 x, fun W hW => (by have y0 := (hW.cell (p := ⟨b, _, none⟩) lB).trans d0; simp [Oper.quietAt, Oper.quietUpon, go_sem, y0]), ?_⟩; simp only [Act.put, List.setIfInBounds_toArray, List.set_cons_zero, List.set_cons_succ]; go_big_quiet_on)
     iterate 2 (first | go_big_quiet_skip | (go_big_quiet_want; go_big_quiet_op; first | go_big_quiet_on | (refine ⟨_, fun _ _ => rfl, ?_⟩; go_big_quiet_on)))
     go_big_quiet_want; go_big_quiet_op; first | go_big_quiet_on | (refine ⟨_, fun _ _ => rfl, ?_⟩; go_big_quiet_on)
     refine wpQuiet_nil ?_
     intro X hX
     go_wp2
     go_ret
     exact ⟨by rw [HO.out]; rfl, hb.trans (hX.mono hb.size)⟩
  ·have hRS : R = S := by
    rw [← HRk.out, List.drop_eq_nil_of_le (by have := HNl.out; omega)]
    rfl
   have cA := cell_of_row wr w.heap.size 8 _ _ (0, 0) hh
   have cT := cell_of_row wr w.heap.size 9 _ _ (0, 0) hh
   have cL := cell_of_row wr w.heap.size 10 _ _ (0, 0) hh
   simp at cA cT cL
   have HAd := fun W => Lib.hid (HA ad W).out
   have HLf := fun W => Lib.hid (l02Is_any lf 1 250 W)
   have hkd : decide ((k : Int) < (N : Int)) = false := decide_eq_false (by omega)
   clear HH HRk hh HA HI
   by_cases s1 : st = 1
   ·have hS := HS.out
    rw [if_pos s1] at hS
    have hs1 : (st == 1) = true := by simpa using s1
    rcases ha : inB 0 251 ad
    ·have HO := Lib.hid (show R = false by rw [hRS, hS, ha]; rfl)
     rw [ha] at HAd
     clear hS hRS HS ha s1
     go_wp2_with (go_at_call 152; refine (HAd _).out.mono ?_; rintro e w' ⟨rfl, rfl⟩)
     go_ret
     exact ⟨by rw [HO.out]; rfl, hb⟩
    ·have HO := Lib.hid (show R = inB 1 250 lf by rw [hRS, hS, ha]; rfl)
     rw [ha] at HAd
     generalize inB 1 250 lf = q at *
     clear hS hRS HS ha s1
     go_wp2_with (first | (go_at_call 152; refine (HAd _).out.mono ?_; rintro e w' ⟨rfl, rfl⟩) | (go_at_call 82; refine (HLf _).out.mono ?_; rintro e w' ⟨rfl, rfl⟩))
     go_ret
     exact ⟨by rw [HO.out]; rfl, hb⟩
   have hs1 : (st == 1) = false := by simpa using s1
   by_cases s2 : st = 2
   ·have hS := HS.out
    rw [if_neg s1, if_pos s2] at hS
    have hs2 : (st == 2) = true := by simpa using s2
    rcases ha : inB 0 251 ad
    ·have HO := Lib.hid (show R = false by rw [hRS, hS, ha]; rfl)
     rw [ha] at HAd
     clear hS hRS HS ha s1 s2
     go_wp2_with (go_at_call 152; refine (HAd _).out.mono ?_; rintro e w' ⟨rfl, rfl⟩)
     go_ret
     exact ⟨by rw [HO.out]; rfl, hb⟩
    ·have HO := Lib.hid (show R = (lf == 0) by rw [hRS, hS, ha, Bool.true_and]; exact (Bool.beq_eq_decide_eq lf 0).symm)
     rw [ha] at HAd
     clear hS hRS HS ha s1 s2
     go_wp2_with (go_at_call 152; refine (HAd _).out.mono ?_; rintro e w' ⟨rfl, rfl⟩)
     go_ret
     exact ⟨by rw [HO.out]; rfl, hb⟩
   have hs2 : (st == 2) = false := by simpa using s2
   by_cases s3 : st = 3
   ·have hS := HS.out
    rw [if_neg s1, if_neg s2, if_pos s3] at hS
    have hs3 : (st == 3) = true := by simpa using s3
    by_cases ha : ad = 254
    ·have HO := Lib.hid (show R = (lf == 0) by rw [hRS, hS, decide_eq_true ha, Bool.true_and]; exact (Bool.beq_eq_decide_eq lf 0).symm)
     have hs4 : (ad == 254) = true := by simpa using ha
     clear hS hRS HS ha s1 s2 s3
     go_wp2_with fail
     go_ret
     exact ⟨by rw [HO.out]; rfl, hb⟩
    ·have HO := Lib.hid (show R = false by rw [hRS, hS, decide_eq_false ha]; rfl)
     have hs4 : (ad == 254) = false := by simpa using ha
     clear hS hRS HS ha s1 s2 s3
     go_wp2_with fail
     go_ret
     exact ⟨by rw [HO.out]; rfl, hb⟩
   ·have hS := HS.out
    rw [if_neg s1, if_neg s2, if_neg s3] at hS
    have hs3 : (st == 3) = false := by simpa using s3
    have HO := Lib.hid (show R = false by rw [hRS, hS])
    clear hS hRS HS s1 s2 s3
    go_wp2_with fail
    go_ret
    exact ⟨by rw [HO.out]; rfl, hb⟩
end Go.Proofs.YtioldepgoodipaaGreat
namespace Go.Proofs.YtioldepgoodipaaGreat
open Go.RowKit
set_option linter.unusedVariables false

def clOutV (n : Nm) (ad st lf : Int) (v : Value) (s : Bool) (c : Int) : Value := .agg #[.int .i64 n.u, .int .i64 n.m, .int .i64 n.i, .int .i64 n.f, .int .i64 n.c, .int .i64 n.s, .int .i64 n.y, .bool n.a, .int .i64 ad, .int .i64 st, .int .i64 lf, v, .bool s, .int .i64 c]
def clNewV (n : Nm) (want : Int) : Value := if (okB n && inB 0 251 want) = true then clOutV n want 1 250 (.slice none 0 0) true 0 else clOutV ⟨0, 0, 0, 0, 0, 0, 0, false⟩ 0 0 0 (.slice none 0 0) false 1

end Go.Proofs.YtioldepgoodipaaGreat
namespace Go.Proofs.YtioldepgoodipaaGreat
open Go.RowKit
set_option linter.unusedVariables false

def nmarks (k N : Nat) : List Int := (List.range N).map fun i => ((k + i : Nat) : Int)
theorem nmarks_length (k N : Nat) : (nmarks k N).length = N := by simp [nmarks]
theorem nmarks_at {k N i : Nat} {x : Int} (h : (nmarks k N)[i]? = some x) : i < N ∧ x = ((k + i : Nat) : Int) := by
 have hi : i < N := by have := (List.getElem?_eq_some_iff.1 h).1; rwa [nmarks_length] at this
 refine ⟨hi, ?_⟩
 unfold nmarks at h
 rw [List.getElem?_map, List.getElem?_range hi] at h
 exact (Option.some.inj h).symm
theorem nmarks_get {k N i : Nat} (h : i < N) : (nmarks k N)[i]? = some ((k + i : Nat) : Int) := by
 unfold nmarks
 rw [List.getElem?_map, List.getElem?_range h]
 rfl
theorem toInt64S_let (a : Option Addr) (cap : Nat) (l : List Int) (w : World) (h : NumsIn w a l) (hlen : l.length ≤ 1048576) :
  Calls Tryz.prog 93 #[.slice a l.length cap] w fun e w' => ∃ g, e = .returned (.slice (some ⟨g, 0, none⟩) l.length l.length) ∧ NumsNew w.heap.size w'.heap.size w' (some ⟨g, 0, none⟩) l ∧ Below w.heap.size w w' :=
 (toInt64S_new a cap l w h hlen).mono fun _ _ ⟨h1, h2, h3⟩ => ⟨_, h1, h2, h3⟩
set_option maxHeartbeats 2000000 in
theorem markInt64S_any {lo hi : Nat} (a : Option Addr) (cap : Nat) (l : List Int) (k : Nat) (w : World) (h : NumsNew lo hi w a l) (hk0 : 0 < k) (hk : k + l.length ≤ 30000000) :
  Calls Tryz.prog 113 #[.slice a l.length cap, .int .i64 (k : Int)] w fun e w' => e = .returned (.int .i64 ((k + l.length : Nat) : Int)) ∧ NumsNew lo hi w' a (nmarks k l.length) ∧ Out lo hi w w' := by
 obtain ⟨N, hN⟩ : ∃ N, l.length = N := ⟨_, rfl⟩
 rcases Nat.eq_zero_or_pos N with hN0 | hN0
 ·rw [hN]
  subst hN0
  clear hN hk h
  go_enter Tryz.func113, Tryz.ntmps113
  go_wp2
  refine wp_loop_rounds 1 ?_
  rw [rounds_succ]; go_wp2
  go_ret
  exact ⟨rfl, .inl rfl, Out.refl _ _ _⟩
 rcases h with rfl | ⟨b, o, rfl, hlo, hhi, hlt, hf, hc⟩
 ·simp at hN
  omega
 have HC := Lib.hid (show ∀ j, j < N → (w.cell? ⟨b, o + j, none⟩).isSome = true ∧ w.frozen? ⟨b, o + j, none⟩ = false from fun j hj => by
  refine ⟨?_, hf j (by omega)⟩
  rw [hc j _ (numAt_some (by omega))]
  rfl)
 rw [hN] at hk ⊢
 clear hc hf hN
 go_enter Tryz.func113, Tryz.ntmps113
 go_wp2
 go_loopw [1, 5] (fun u i wr => ∃ m : Nat, i = .int .i64 (m : Int) ∧ u = .int .i64 ((k + m : Nat) : Int) ∧ m ≤ N ∧ Out lo hi w wr ∧
  (∀ j, j < m → wr.cell? ⟨b, o + j, none⟩ = some (.int .i64 ((k + j : Nat) : Int))) ∧
  (∀ j, j < N → (wr.cell? ⟨b, o + j, none⟩).isSome = true ∧ wr.frozen? ⟨b, o + j, none⟩ = false)) (fun _ i _ => N - (intOf i).toNat)
 case atStart => exact ⟨0, rfl, rfl, by omega, Out.refl _ _ _, fun j hj => absurd hj (by omega), HC.out⟩
 case round =>
  obtain ⟨m, rfl, rfl, hm, hb, hdone, hroom⟩ := hrel
  have HD := Lib.hid hdone
  have HR := Lib.hid hroom
  have hsz := hb.size
  clear hdone hroom
  by_cases hmn : m < N
  ·obtain ⟨u0, e0⟩ := Option.isSome_iff_exists.1 (HR.out m hmn).1
   have g0 := (HR.out m hmn).2
   have hbw : b < wr.heap.size := by omega
   obtain ⟨k2, hk2⟩ : ∃ k2, k + (m + 1) = k2 := ⟨_, rfl⟩
   have hw1 : IntKind.i64.wrap (((k + m : Nat) : Int) + 1) = (k2 : Int) := by rw [IntWalk.i64_in _ (by omega)]; omega
   have HK := Lib.hid hk2
   clear hk2
   obtain ⟨k0, hk0'⟩ : ∃ k0, k + m = k0 := ⟨_, rfl⟩
   have HK0 := Lib.hid hk0'
   rw [hk0'] at hw1 ⊢
   clear hk0'
   have hi1 : (0 : Int) ≤ (m : Int) := by omega
   have hi2 : (m : Int) < (N : Int) := by omega
   go_wp2
   go_roundw
   case rel =>
    refine ⟨m + 1, by go_num, by rw [HK.out], by omega, hb.setCell (p := ⟨b, o + m, none⟩) hlo hhi _, fun j hj => ?_, fun j hj => ?_⟩
    ·rcases Nat.lt_or_ge j m with h | h
     ·rw [World.cell?_setCell_other _ _ _ _ (by simp <;> omega)]
      exact HD.out j h
     ·obtain rfl : j = m := by omega
      rw [HK0.out]
      exact World.cell?_setCell_same _ _ _ e0
    ·refine ⟨?_, by rw [World.frozen?_setCell]; exact (HR.out j hj).2⟩
     by_cases q : j = m
     ·subst q
      rw [World.cell?_setCell_same _ _ _ e0]
      rfl
     ·rw [World.cell?_setCell_other _ _ _ _ (by simp <;> omega)]
      exact (HR.out j hj).1
   case measure => simp [intOf]; omega
  ·have hge : N ≤ m := by omega
   have HR' := HR
   go_wp2
   go_ret
   exact ⟨by rw [show N = m by omega]; rfl, .inr ⟨b, o, rfl, hlo, hhi, by omega, fun j hj => (HR.out j (by rw [nmarks_length] at hj; exact hj)).2, fun i x hx => by
    obtain ⟨hi, rfl⟩ := nmarks_at hx
    exact HD.out i (by omega)⟩, hb⟩
set_option maxHeartbeats 2000000 in
theorem heldInt64S_any (a : Option Addr) (cap : Nat) (N : Nat) (k : Nat) (w : World) (h : NumsIn w a (nmarks k N)) (hk0 : 0 < k) (hk : k + N ≤ 30000000) :
  Calls Tryz.prog 174 #[.slice a N cap, .int .i64 (k : Int)] w fun e w' => e = .returned (.int .i64 ((k + N : Nat) : Int)) ∧ w = w' := by
 rcases Nat.eq_zero_or_pos N with hN0 | hN0
 ·subst hN0
  clear h
  go_enter Tryz.func174, Tryz.ntmps174
  go_wp2
  refine wp_loop_rounds 1 ?_
  rw [rounds_succ]; go_wp2
  go_ret
  exact ⟨rfl, rfl⟩
 rcases h with h | ⟨b, o, rfl, hlt, hc⟩
 ·have := nmarks_length k N
  rw [h] at this
  simp at this
  omega
 have HI := Lib.hid hc
 clear hc
 go_enter Tryz.func174, Tryz.ntmps174
 go_wp2
 go_loopw [1, 5] (fun u i wr => ∃ m : Nat, i = .int .i64 (m : Int) ∧ u = .int .i64 ((k + m : Nat) : Int) ∧ m ≤ N ∧ w = wr) (fun _ i _ => N - (intOf i).toNat)
 case atStart => exact ⟨0, rfl, rfl, by omega, rfl⟩
 case round =>
  obtain ⟨m, rfl, rfl, hm, rfl⟩ := hrel
  by_cases hmn : m < N
  ·have d0 := HI.out m _ (nmarks_get hmn)
   obtain ⟨k2, hk2⟩ : ∃ k2, k + (m + 1) = k2 := ⟨_, rfl⟩
   have hw1 : IntKind.i64.wrap (((k + m : Nat) : Int) + 1) = (k2 : Int) := by rw [IntWalk.i64_in _ (by omega)]; omega
   have HK := Lib.hid hk2
   clear hk2
   generalize k + m = k0 at *
   have hi1 : (0 : Int) ≤ (m : Int) := by omega
   have hi2 : (m : Int) < (N : Int) := by omega
   go_wp2
   go_roundw
   case rel => exact ⟨m + 1, by go_num, by rw [HK.out], by omega, by first | rfl | trivial⟩
   case measure => simp [intOf]; omega
  ·have hge : N ≤ m := by omega
   go_wp2
   go_ret
   exact ⟨by rw [show N = m by omega]; rfl, rfl⟩
set_option maxRecDepth 100000 in
set_option maxHeartbeats 4000000 in
theorem toClaim_new (n : Nm) (ad st lf : Int) (a : Option Addr) (cap : Nat) (l : List Int) (w : World) (h : NumsIn w a l) (hlen : l.length ≤ 1048576) :
  Calls Tryz.prog 39 #[clV n ad st lf (.slice a l.length cap)] w fun e w' => ∃ g, e = .returned (clV n ad st lf (.slice (some ⟨g, 0, none⟩) l.length l.length)) ∧ NumsNew w.heap.size w'.heap.size w' (some ⟨g, 0, none⟩) l ∧ Below w.heap.size w w' := by
 have HT := fun W hW => Lib.hid (toInt64S_let a cap l W hW hlen)
 have HN := fun W => Lib.hid (toName_any n W)
 have HI := Lib.hid h
 clear h hlen
 generalize l.length = N at *
 obtain ⟨n0, n1, n2, n3, n4, n5, n6, n7⟩ := n
 unfold clV
 unfold nmV at HN
 dsimp only at *
 go_enter Tryz.func39, Tryz.ntmps39
 go_wp2_with (first
  | (refine wpList_box_h rfl 26 (.tmp 0) rfl #[.int .i64 n0, .int .i64 n1, .int .i64 n2, .int .i64 n3, .int .i64 n4, .int .i64 n5, .int .i64 n6, .bool n7, .int .i64 ad, .int .i64 st, .int .i64 lf, .slice a N cap] rfl ?_; intro w1 R1 e1 g1 b1; have HL1 := Lib.hid (show Lv w w1 [(R1, (qB4 n0 n1 n2 n3 n4 n5 n6 n7 ad st lf a N cap), 26)] [] from (Lv.first w).box e1 g1 b1); clear g1 b1 e1)
  | (refine wpList_alloc_h rfl 40 rfl (.agg #[.int .i64 0, .int .i64 0, .int .i64 0, .int .i64 0, .int .i64 0, .int .i64 0, .int .i64 0, .bool false, .int .i64 0, .int .i64 0, .int .i64 0, .slice none 0 0]) (by kernel_rfl) #[.int .i64 0, .int .i64 0, .int .i64 0, .int .i64 0, .int .i64 0, .int .i64 0, .int .i64 0, .bool false, .int .i64 0, .int .i64 0, .int .i64 0, .slice none 0 0] rfl ?_; intro w2 R2 e2 g2 b2; have qR2_R1 : R1 < R2 := Nat.lt_of_lt_of_eq (HL1.out.lt (.head _)) e2; have HL2 := Lib.hid (show Lv w w2 [(R2, (qB5), 40), (R1, (qB4 n0 n1 n2 n3 n4 n5 n6 n7 ad st lf a N cap), 26)] [] from HL1.out.box e2 g2 b2); clear g2 b2 e2)
  | (refine wpList_alloc_h rfl 40 rfl (.agg #[.int .i64 0, .int .i64 0, .int .i64 0, .int .i64 0, .int .i64 0, .int .i64 0, .int .i64 0, .bool false, .int .i64 0, .int .i64 0, .int .i64 0, .slice none 0 0]) (by kernel_rfl) #[.int .i64 0, .int .i64 0, .int .i64 0, .int .i64 0, .int .i64 0, .int .i64 0, .int .i64 0, .bool false, .int .i64 0, .int .i64 0, .int .i64 0, .slice none 0 0] rfl ?_; intro w3 R3 e3 g3 b3; have qR3_R2 : R2 < R3 := Nat.lt_of_lt_of_eq (HL2.out.lt (.head _)) e3; have qR3_R1 : R1 < R3 := Nat.lt_of_lt_of_eq (HL2.out.lt qBm1) e3; have HL3 := Lib.hid (show Lv w w3 [(R3, (qB5), 40), (R2, (qB5), 40), (R1, (qB4 n0 n1 n2 n3 n4 n5 n6 n7 ad st lf a N cap), 26)] [] from HL2.out.box e3 g3 b3); clear g3 b3 e3)
  | (refine wpList_load_at rfl 23 (.tmp 4) rfl (R1) 0 rfl 26 (qB4 n0 n1 n2 n3 n4 n5 n6 n7 ad st lf a N cap) (0, 0) (HL3.out.get qBm2) [.int .i64 n0, .int .i64 n1, .int .i64 n2, .int .i64 n3, .int .i64 n4, .int .i64 n5, .int .i64 n6, .bool n7] rfl _ Tryz.underlying23 rfl (by kernel_rfl) ?_)
  | (go_at_call 92; refine ((HN _).out).mono ?_; rintro e w4 ⟨rfl, h⟩; have HL4 := Lib.hid (show Lv w w4 [(R3, (qB5), 40), (R2, (qB5), 40), (R1, (qB4 n0 n1 n2 n3 n4 n5 n6 n7 ad st lf a N cap), 26)] [] from HL3.out.kept h); clear h)
  | (refine wpList_put_at rfl 38 (.tmp 7) (.tmp 6) rfl rfl (R3) 0 rfl _ rfl #[.int .i64 n0, .int .i64 n1, .int .i64 n2, .int .i64 n3, .int .i64 n4, .int .i64 n5, .int .i64 n6, .bool n7] rfl 40 (qB5) (qB6 n0 n1 n2 n3 n4 n5 n6 n7) (HL4.out.get (.head _)) (by kernel_rfl) (by kernel_rfl) (by kernel_rfl) (by kernel_rfl) ?_; intro w5 g5 o5; have HL5 := Lib.hid (show Lv w w5 [(R3, (qB6 n0 n1 n2 n3 n4 n5 n6 n7), 40), (R2, (qB5), 40), (R1, (qB4 n0 n1 n2 n3 n4 n5 n6 n7 ad st lf a N cap), 26)] [] from HL4.out.put 0 rfl g5 o5 (qBf ⟨Nat.ne_of_lt qR3_R2, (qBf ⟨Nat.ne_of_lt qR3_R1, (fun _ h => nomatch h)⟩)⟩) (fun _ h => nomatch h) rfl); clear g5 o5)
  | (refine wpList_load_one rfl 2 (.tmp 8) rfl (R1) 8 rfl 26 (qB4 n0 n1 n2 n3 n4 n5 n6 n7 ad st lf a N cap) (0, 0) (HL5.out.get qBm2) (.int .i64 ad) rfl _ Tryz.underlying2 rfl (by kernel_rfl) ?_)
  | (refine wpList_put_at rfl 2 (.tmp 10) (.tmp 9) rfl rfl (R3) 8 rfl (.int .i64 ad) rfl #[.int .i64 ad] rfl 40 (qB6 n0 n1 n2 n3 n4 n5 n6 n7) (qB7 n0 n1 n2 n3 n4 n5 n6 n7 ad) (HL5.out.get (.head _)) (by kernel_rfl) (by kernel_rfl) (by kernel_rfl) (by kernel_rfl) ?_; intro w6 g6 o6; have HL6 := Lib.hid (show Lv w w6 [(R3, (qB7 n0 n1 n2 n3 n4 n5 n6 n7 ad), 40), (R2, (qB5), 40), (R1, (qB4 n0 n1 n2 n3 n4 n5 n6 n7 ad st lf a N cap), 26)] [] from HL5.out.put 0 rfl g6 o6 (qBf ⟨Nat.ne_of_lt qR3_R2, (qBf ⟨Nat.ne_of_lt qR3_R1, (fun _ h => nomatch h)⟩)⟩) (fun _ h => nomatch h) rfl); clear g6 o6)
  | (refine wpList_load_one rfl 2 (.tmp 11) rfl (R1) 9 rfl 26 (qB4 n0 n1 n2 n3 n4 n5 n6 n7 ad st lf a N cap) (0, 0) (HL6.out.get qBm2) (.int .i64 st) rfl _ Tryz.underlying2 rfl (by kernel_rfl) ?_)
  | (refine wpList_put_at rfl 2 (.tmp 13) (.tmp 12) rfl rfl (R3) 9 rfl (.int .i64 st) rfl #[.int .i64 st] rfl 40 (qB7 n0 n1 n2 n3 n4 n5 n6 n7 ad) (qB8 n0 n1 n2 n3 n4 n5 n6 n7 ad st) (HL6.out.get (.head _)) (by kernel_rfl) (by kernel_rfl) (by kernel_rfl) (by kernel_rfl) ?_; intro w7 g7 o7; have HL7 := Lib.hid (show Lv w w7 [(R3, (qB8 n0 n1 n2 n3 n4 n5 n6 n7 ad st), 40), (R2, (qB5), 40), (R1, (qB4 n0 n1 n2 n3 n4 n5 n6 n7 ad st lf a N cap), 26)] [] from HL6.out.put 0 rfl g7 o7 (qBf ⟨Nat.ne_of_lt qR3_R2, (qBf ⟨Nat.ne_of_lt qR3_R1, (fun _ h => nomatch h)⟩)⟩) (fun _ h => nomatch h) rfl); clear g7 o7)
  | (refine wpList_load_one rfl 2 (.tmp 14) rfl (R1) 10 rfl 26 (qB4 n0 n1 n2 n3 n4 n5 n6 n7 ad st lf a N cap) (0, 0) (HL7.out.get qBm2) (.int .i64 lf) rfl _ Tryz.underlying2 rfl (by kernel_rfl) ?_)
  | (refine wpList_put_at rfl 2 (.tmp 16) (.tmp 15) rfl rfl (R3) 10 rfl (.int .i64 lf) rfl #[.int .i64 lf] rfl 40 (qB8 n0 n1 n2 n3 n4 n5 n6 n7 ad st) (qB9 n0 n1 n2 n3 n4 n5 n6 n7 ad st lf) (HL7.out.get (.head _)) (by kernel_rfl) (by kernel_rfl) (by kernel_rfl) (by kernel_rfl) ?_; intro w8 g8 o8; have HL8 := Lib.hid (show Lv w w8 [(R3, (qB9 n0 n1 n2 n3 n4 n5 n6 n7 ad st lf), 40), (R2, (qB5), 40), (R1, (qB4 n0 n1 n2 n3 n4 n5 n6 n7 ad st lf a N cap), 26)] [] from HL7.out.put 0 rfl g8 o8 (qBf ⟨Nat.ne_of_lt qR3_R2, (qBf ⟨Nat.ne_of_lt qR3_R1, (fun _ h => nomatch h)⟩)⟩) (fun _ h => nomatch h) rfl); clear g8 o8)
  | (refine wpList_load_one rfl 24 (.tmp 17) rfl (R1) 11 rfl 26 (qB4 n0 n1 n2 n3 n4 n5 n6 n7 ad st lf a N cap) (0, 0) (HL8.out.get qBm2) (.slice a N cap) rfl _ Tryz.underlying24 rfl (by kernel_rfl) ?_)
  | (go_at_call 93; refine ((HT _ (HI.out.kept HL8.out.below)).out).mono ?_; rintro e w9 ⟨g, rfl, hn, h⟩; obtain ⟨L9, e9⟩ : ∃ x, w8.heap.size = x := ⟨_, rfl⟩; obtain ⟨H9, f9⟩ : ∃ x, w9.heap.size = x := ⟨_, rfl⟩; have qL9_R3 : R3 < L9 := Nat.lt_of_lt_of_eq (HL8.out.lt (.head _)) e9; have qL9_R2 : R2 < L9 := Nat.lt_of_lt_of_eq (HL8.out.lt qBm1) e9; have qL9_R1 : R1 < L9 := Nat.lt_of_lt_of_eq (HL8.out.lt qBm2) e9; have qH9_L9 : L9 ≤ H9 := (by rw [← e9, ← f9]; exact h.size); have HL9 := Lib.hid (show Lv w w9 [(R3, (qB9 n0 n1 n2 n3 n4 n5 n6 n7 ad st lf), 40), (R2, (qB5), 40), (R1, (qB4 n0 n1 n2 n3 n4 n5 n6 n7 ad st lf a N cap), 26)] [(L9, H9, some ⟨g, 0, none⟩, l)] from HL8.out.made e9 f9 h hn); clear h hn e9 f9)
  | (refine wpList_put_at rfl 24 (.tmp 20) (.tmp 19) rfl rfl (R3) 11 rfl (.slice (some ⟨g, 0, none⟩) N N) rfl #[.slice (some ⟨g, 0, none⟩) N N] rfl 40 (qB9 n0 n1 n2 n3 n4 n5 n6 n7 ad st lf) (qB4 n0 n1 n2 n3 n4 n5 n6 n7 ad st lf (some ⟨g, 0, none⟩) N N) (HL9.out.get (.head _)) (by kernel_rfl) (by kernel_rfl) (by kernel_rfl) (by kernel_rfl) ?_; intro w10 g10 o10; have HL10 := Lib.hid (show Lv w w10 [(R3, (qB4 n0 n1 n2 n3 n4 n5 n6 n7 ad st lf (some ⟨g, 0, none⟩) N N), 40), (R2, (qB5), 40), (R1, (qB4 n0 n1 n2 n3 n4 n5 n6 n7 ad st lf a N cap), 26)] [(L9, H9, some ⟨g, 0, none⟩, l)] from HL9.out.put 0 rfl g10 o10 (qBf ⟨Nat.ne_of_lt qR3_R2, (qBf ⟨Nat.ne_of_lt qR3_R1, (fun _ h => nomatch h)⟩)⟩) (qBf ⟨.inr qL9_R3, (fun _ h => nomatch h)⟩) rfl); clear g10 o10)
  | (refine wpList_load_at rfl 40 (.tmp 3) rfl (R3) 0 rfl 40 (qB4 n0 n1 n2 n3 n4 n5 n6 n7 ad st lf (some ⟨g, 0, none⟩) N N) (0, 0) (HL10.out.get (.head _)) [.int .i64 n0, .int .i64 n1, .int .i64 n2, .int .i64 n3, .int .i64 n4, .int .i64 n5, .int .i64 n6, .bool n7, .int .i64 ad, .int .i64 st, .int .i64 lf, .slice (some ⟨g, 0, none⟩) N N] rfl _ Tryz.underlying40 rfl (by kernel_rfl) ?_)
  | (refine wpList_put_at rfl 40 (.tmp 2) (.tmp 21) rfl rfl (R2) 0 rfl _ rfl #[.int .i64 n0, .int .i64 n1, .int .i64 n2, .int .i64 n3, .int .i64 n4, .int .i64 n5, .int .i64 n6, .bool n7, .int .i64 ad, .int .i64 st, .int .i64 lf, .slice (some ⟨g, 0, none⟩) N N] rfl 40 (qB5) (qB4 n0 n1 n2 n3 n4 n5 n6 n7 ad st lf (some ⟨g, 0, none⟩) N N) (HL10.out.get qBm1) (by kernel_rfl) (by kernel_rfl) (by kernel_rfl) (by kernel_rfl) ?_; intro w11 g11 o11; have HL11 := Lib.hid (show Lv w w11 [(R3, (qB4 n0 n1 n2 n3 n4 n5 n6 n7 ad st lf (some ⟨g, 0, none⟩) N N), 40), (R2, (qB4 n0 n1 n2 n3 n4 n5 n6 n7 ad st lf (some ⟨g, 0, none⟩) N N), 40), (R1, (qB4 n0 n1 n2 n3 n4 n5 n6 n7 ad st lf a N cap), 26)] [(L9, H9, some ⟨g, 0, none⟩, l)] from HL10.out.put 1 rfl g11 o11 (qBf ⟨Nat.ne_of_gt qR3_R2, (qBf ⟨Nat.ne_of_lt qR2_R1, (fun _ h => nomatch h)⟩)⟩) (qBf ⟨.inr qL9_R2, (fun _ h => nomatch h)⟩) rfl); clear g11 o11))
 exact bodyPost_ret (results_cell_row (p := 2) (ty := 40) (by kernel_rfl) _ _ (R2) 40 _ (0, 0) _ rfl (HL11.out.get qBm1) Tryz.underlying40 rfl (by kernel_rfl)) rfl ⟨g, rfl, HL11.out.all (.head _), HL11.out.below⟩
set_option maxRecDepth 100000 in
set_option maxHeartbeats 4000000 in
theorem eqClaim_same (n : Nm) (ad st lf : Int) (a a' : Option Addr) (cap cap' : Nat) (l : List Int) (w : World) (h : NumsIn w a l) (h' : NumsIn w a' l) (hlen : l.length ≤ 1048576) :
  Calls Tryz.prog 51 #[clV n ad st lf (.slice a l.length cap), clV n ad st lf (.slice a' l.length cap')] w fun e w' => e = .returned (.bool true) ∧ Below w.heap.size w w' := by
 have HE := fun W hW hW' => Lib.hid (eqInt64S_same a a' cap cap' l W hW hW' hlen)
 have HN := fun W => Lib.hid (eqName_same n W)
 have HI := Lib.hid h
 have HJ := Lib.hid h'
 clear h h' hlen
 generalize l.length = N at *
 obtain ⟨n0, n1, n2, n3, n4, n5, n6, n7⟩ := n
 unfold clV
 unfold nmV at HN
 dsimp only at *
 go_enter Tryz.func51, Tryz.ntmps51
 go_wp2_with (first
  | (refine wpList_box_h rfl 40 (.tmp 0) rfl #[.int .i64 n0, .int .i64 n1, .int .i64 n2, .int .i64 n3, .int .i64 n4, .int .i64 n5, .int .i64 n6, .bool n7, .int .i64 ad, .int .i64 st, .int .i64 lf, .slice a N cap] rfl ?_; intro w1 R1 e1 g1 b1; have HL1 := Lib.hid (show Lv w w1 [(R1, (qB4 n0 n1 n2 n3 n4 n5 n6 n7 ad st lf a N cap), 40)] [] from (Lv.first w).box e1 g1 b1); clear g1 b1 e1)
  | (refine wpList_box_h rfl 40 (.tmp 1) rfl #[.int .i64 n0, .int .i64 n1, .int .i64 n2, .int .i64 n3, .int .i64 n4, .int .i64 n5, .int .i64 n6, .bool n7, .int .i64 ad, .int .i64 st, .int .i64 lf, .slice a' N cap'] rfl ?_; intro w2 R2 e2 g2 b2; have qR2_R1 : R1 < R2 := Nat.lt_of_lt_of_eq (HL1.out.lt (.head _)) e2; have HL2 := Lib.hid (show Lv w w2 [(R2, (qB4 n0 n1 n2 n3 n4 n5 n6 n7 ad st lf a' N cap'), 40), (R1, (qB4 n0 n1 n2 n3 n4 n5 n6 n7 ad st lf a N cap), 40)] [] from HL1.out.box e2 g2 b2); clear g2 b2 e2)
  | (refine wpList_load_at rfl 38 (.tmp 5) rfl (R1) 0 rfl 40 (qB4 n0 n1 n2 n3 n4 n5 n6 n7 ad st lf a N cap) (0, 0) (HL2.out.get qBm1) [.int .i64 n0, .int .i64 n1, .int .i64 n2, .int .i64 n3, .int .i64 n4, .int .i64 n5, .int .i64 n6, .bool n7] rfl _ Tryz.underlying38 rfl (by kernel_rfl) ?_)
  | (refine wpList_load_at rfl 38 (.tmp 7) rfl (R2) 0 rfl 40 (qB4 n0 n1 n2 n3 n4 n5 n6 n7 ad st lf a' N cap') (0, 0) (HL2.out.get (.head _)) [.int .i64 n0, .int .i64 n1, .int .i64 n2, .int .i64 n3, .int .i64 n4, .int .i64 n5, .int .i64 n6, .bool n7] rfl _ Tryz.underlying38 rfl (by kernel_rfl) ?_)
  | (go_at_call 107; refine ((HN _).out).mono ?_; rintro e w3 ⟨rfl, h⟩; have HL3 := Lib.hid (show Lv w w3 [(R2, (qB4 n0 n1 n2 n3 n4 n5 n6 n7 ad st lf a' N cap'), 40), (R1, (qB4 n0 n1 n2 n3 n4 n5 n6 n7 ad st lf a N cap), 40)] [] from HL2.out.kept h); clear h)
  | (refine wpList_load_one rfl 2 (.tmp 11) rfl (R1) 8 rfl 40 (qB4 n0 n1 n2 n3 n4 n5 n6 n7 ad st lf a N cap) (0, 0) (HL3.out.get qBm1) (.int .i64 ad) rfl _ Tryz.underlying2 rfl (by kernel_rfl) ?_)
  | (refine wpList_load_one rfl 2 (.tmp 13) rfl (R2) 8 rfl 40 (qB4 n0 n1 n2 n3 n4 n5 n6 n7 ad st lf a' N cap') (0, 0) (HL3.out.get (.head _)) (.int .i64 ad) rfl _ Tryz.underlying2 rfl (by kernel_rfl) ?_)
  | (refine wpList_load_one rfl 2 (.tmp 16) rfl (R1) 9 rfl 40 (qB4 n0 n1 n2 n3 n4 n5 n6 n7 ad st lf a N cap) (0, 0) (HL3.out.get qBm1) (.int .i64 st) rfl _ Tryz.underlying2 rfl (by kernel_rfl) ?_)
  | (refine wpList_load_one rfl 2 (.tmp 18) rfl (R2) 9 rfl 40 (qB4 n0 n1 n2 n3 n4 n5 n6 n7 ad st lf a' N cap') (0, 0) (HL3.out.get (.head _)) (.int .i64 st) rfl _ Tryz.underlying2 rfl (by kernel_rfl) ?_)
  | (refine wpList_load_one rfl 2 (.tmp 21) rfl (R1) 10 rfl 40 (qB4 n0 n1 n2 n3 n4 n5 n6 n7 ad st lf a N cap) (0, 0) (HL3.out.get qBm1) (.int .i64 lf) rfl _ Tryz.underlying2 rfl (by kernel_rfl) ?_)
  | (refine wpList_load_one rfl 2 (.tmp 23) rfl (R2) 10 rfl 40 (qB4 n0 n1 n2 n3 n4 n5 n6 n7 ad st lf a' N cap') (0, 0) (HL3.out.get (.head _)) (.int .i64 lf) rfl _ Tryz.underlying2 rfl (by kernel_rfl) ?_)
  | (refine wpList_load_one rfl 24 (.tmp 26) rfl (R1) 11 rfl 40 (qB4 n0 n1 n2 n3 n4 n5 n6 n7 ad st lf a N cap) (0, 0) (HL3.out.get qBm1) (.slice a N cap) rfl _ Tryz.underlying24 rfl (by kernel_rfl) ?_)
  | (refine wpList_load_one rfl 24 (.tmp 28) rfl (R2) 11 rfl 40 (qB4 n0 n1 n2 n3 n4 n5 n6 n7 ad st lf a' N cap') (0, 0) (HL3.out.get (.head _)) (.slice a' N cap') rfl _ Tryz.underlying24 rfl (by kernel_rfl) ?_)
  | (go_at_call 108; refine ((HE _ (HI.out.kept HL3.out.below) (HJ.out.kept HL3.out.below)).out).mono ?_; rintro e w4 ⟨rfl, h⟩; have HL4 := Lib.hid (show Lv w w4 [(R2, (qB4 n0 n1 n2 n3 n4 n5 n6 n7 ad st lf a' N cap'), 40), (R1, (qB4 n0 n1 n2 n3 n4 n5 n6 n7 ad st lf a N cap), 40)] [] from HL3.out.kept h); clear h))
 go_ret
 exact ⟨rfl, HL4.out.below⟩
set_option maxRecDepth 100000 in
set_option maxHeartbeats 4000000 in
theorem markClaim_any {lo hi : Nat} (n : Nm) (ad st lf : Int) (a : Option Addr) (cap : Nat) (l : List Int) (k : Nat) (w : World) (h : NumsNew lo hi w a l) (hk0 : 0 < k) (hk : k + l.length ≤ 30000000) :
  Calls Tryz.prog 57 #[clV n ad st lf (.slice a l.length cap), .int .i64 (k : Int)] w fun e w' => e = .returned (.int .i64 ((k + l.length : Nat) : Int)) ∧ NumsNew lo hi w' a (nmarks k l.length) ∧ Out lo hi w w' := by
 have H := fun W hW => Lib.hid (markInt64S_any (lo := lo) (hi := hi) a cap l k W hW hk0 hk)
 have HN := Lib.hid h
 clear h hk hk0
 generalize (k + l.length) = k2 at *
 generalize l.length = N at *
 obtain ⟨n0, n1, n2, n3, n4, n5, n6, n7⟩ := n
 unfold clV
 dsimp only at *
 go_enter Tryz.func57, Tryz.ntmps57
 go_wp2_with (first
  | (refine wpList_box_h rfl 40 (.tmp 0) rfl #[.int .i64 n0, .int .i64 n1, .int .i64 n2, .int .i64 n3, .int .i64 n4, .int .i64 n5, .int .i64 n6, .bool n7, .int .i64 ad, .int .i64 st, .int .i64 lf, .slice a N cap] rfl ?_; intro w1 R1 e1 g1 b1; have HL1 := Lib.hid (show Lv w w1 [(R1, (qB4 n0 n1 n2 n3 n4 n5 n6 n7 ad st lf a N cap), 40)] [] from (Lv.first w).box e1 g1 b1); clear g1 b1 e1)
  | (refine wpList_load_one rfl 24 (.tmp 5) rfl (R1) 11 rfl 40 (qB4 n0 n1 n2 n3 n4 n5 n6 n7 ad st lf a N cap) (0, 0) (HL1.out.get (.head _)) (.slice a N cap) rfl _ Tryz.underlying24 rfl (by kernel_rfl) ?_))
 refine (H _ (HN.out.kept HL1.out.below)).out.mono ?_
 rintro e w2 ⟨rfl, h1, h2⟩
 go_wp2_with fail
 go_ret
 exact ⟨rfl, h1, (Out.of_below HL1.out.below).trans h2⟩
set_option maxRecDepth 100000 in
set_option maxHeartbeats 4000000 in
theorem heldClaim_any (n : Nm) (ad st lf : Int) (a : Option Addr) (cap : Nat) (N k : Nat) (w : World) (h : NumsIn w a (nmarks k N)) (hk0 : 0 < k) (hk : k + N ≤ 30000000) :
  Calls Tryz.prog 116 #[clV n ad st lf (.slice a N cap), .int .i64 (k : Int)] w fun e w' => e = .returned (.int .i64 ((k + N : Nat) : Int)) ∧ Below w.heap.size w w' := by
 have H := fun W hW => Lib.hid (heldInt64S_any a cap N k W hW hk0 hk)
 have HN := Lib.hid h
 have hd : decide (((k + N : Nat) : Int) < 0) = false := decide_eq_false (by omega)
 clear h hk hk0
 generalize (k + N) = k2 at *
 obtain ⟨n0, n1, n2, n3, n4, n5, n6, n7⟩ := n
 unfold clV
 dsimp only at *
 go_enter Tryz.func116, Tryz.ntmps116
 go_wp2_with (first
  | (refine wpList_box_h rfl 40 (.tmp 0) rfl #[.int .i64 n0, .int .i64 n1, .int .i64 n2, .int .i64 n3, .int .i64 n4, .int .i64 n5, .int .i64 n6, .bool n7, .int .i64 ad, .int .i64 st, .int .i64 lf, .slice a N cap] rfl ?_; intro w1 R1 e1 g1 b1; have HL1 := Lib.hid (show Lv w w1 [(R1, (qB4 n0 n1 n2 n3 n4 n5 n6 n7 ad st lf a N cap), 40)] [] from (Lv.first w).box e1 g1 b1); clear g1 b1 e1)
  | (refine wpList_load_one rfl 24 (.tmp 5) rfl (R1) 11 rfl 40 (qB4 n0 n1 n2 n3 n4 n5 n6 n7 ad st lf a N cap) (0, 0) (HL1.out.get (.head _)) (.slice a N cap) rfl _ Tryz.underlying24 rfl (by kernel_rfl) ?_))
 refine (H _ (HN.out.kept HL1.out.below)).out.mono ?_
 rintro e w2 ⟨rfl, rfl⟩
 go_wp2_with fail
 go_ret
 exact ⟨rfl, HL1.out.below⟩
end Go.Proofs.YtioldepgoodipaaGreat
namespace Go.Proofs.YtioldepgoodipaaGreat
open Go.RowKit Go.ChangeShapes Go.WideShapes Go.ChangeAt Go.Joins
set_option linter.unusedVariables false

def szL : List (Int × ByteArray) → Int → Int
 | [], m => m
 | x :: l, m => if m - x.2.size < 0 then -1 else szL l (m - x.2.size)
theorem CansTo.info : (Tryz.prog.info? 66).map (fun i => (i.zero, i.size, i.bytes)) = some (some (.agg #[.int .i64 0, .string ByteArray.empty]), 2, 24) := by kernel_rfl
theorem own_row2 {w : World} {base : Nat} {e : TypeId} {g n : Nat} {xs : List Value} (h : w.ownsRow base e 2 (.slice (some ⟨g, 0, none⟩) n n) n xs) :
  ∀ j, j < n * 2 → (w.cell? ⟨g, j, none⟩).isSome = true ∧ w.frozen? ⟨g, j, none⟩ = false := by
 rcases h.2 with ⟨h', _⟩ | ⟨g', cap', cur, h', _, hg, _, _, hc, _⟩
 ·simp at h'
 ·simp only [Value.slice.injEq, Option.some.injEq, Addr.mk.injEq, and_true, true_and] at h'
  obtain ⟨rfl, rfl⟩ := h'
  intro j hj
  refine ⟨?_, frozen_of_row w g j cur e hg⟩
  rw [cell_of_row w g j cur e (0, 0) hg]
  rw [Array.getElem?_eq_getElem (by omega)]
  rfl

theorem World.ownsRow.form' {w : World} {base : Nat} {e : TypeId} {size : Nat} {v : Value} {n : Nat} {xs : List Value} (h : w.ownsRow base e size v n xs) (hn : 0 < n) :
  ∃ g cap, v = .slice (some ⟨g, 0, none⟩) n cap ∧ base ≤ g ∧ g < w.heap.size := by
 obtain ⟨g, cap, hv⟩ := ownsRow_form h hn
 subst hv
 have := World.ownsRow.lt h g rfl
 exact ⟨g, cap, rfl, this.1, this.2⟩

theorem set2_same {W : World} {g k : Nat} {u0 u1 v0 v1 : Value} (h0 : W.cell? ⟨g, k, none⟩ = some u0) (h1 : W.cell? ⟨g, k + 1, none⟩ = some u1) :
  ((W.setCell ⟨g, k, none⟩ v0).setCell ⟨g, k + 1, none⟩ v1).cell? ⟨g, k, none⟩ = some v0 ∧ ((W.setCell ⟨g, k, none⟩ v0).setCell ⟨g, k + 1, none⟩ v1).cell? ⟨g, k + 1, none⟩ = some v1 := by
 constructor
 ·rw [World.cell?_setCell_other _ _ _ _ (by simp), World.cell?_setCell_same _ _ _ h0]
 ·rw [World.cell?_setCell_same _ _ _ (u := u1) (by rw [World.cell?_setCell_other _ _ _ _ (by simp)]; exact h1)]
theorem set2_other {W : World} {g k j : Nat} {v0 v1 : Value} (h0 : k ≠ j) (h1 : k + 1 ≠ j) :
  ((W.setCell ⟨g, k, none⟩ v0).setCell ⟨g, k + 1, none⟩ v1).cell? ⟨g, j, none⟩ = W.cell? ⟨g, j, none⟩ := by
 rw [World.cell?_setCell_other _ _ _ _ (by simp), World.cell?_setCell_other _ _ _ _ (by simp)]
theorem set2_some {W : World} {g k j : Nat} {u0 u1 v0 v1 : Value} (h0 : W.cell? ⟨g, k, none⟩ = some u0) (h1 : W.cell? ⟨g, k + 1, none⟩ = some u1) (h : (W.cell? ⟨g, j, none⟩).isSome = true) :
  (((W.setCell ⟨g, k, none⟩ v0).setCell ⟨g, k + 1, none⟩ v1).cell? ⟨g, j, none⟩).isSome = true := by
 by_cases e0 : k = j
 ·subst e0
  rw [(set2_same h0 h1).1]
  rfl
 by_cases e1 : k + 1 = j
 ·subst e1
  rw [(set2_same h0 h1).2]
  rfl
 rw [set2_other e0 e1]
 exact h

set_option maxHeartbeats 2000000 in
theorem toCanS_new (a : Option Addr) (cap : Nat) (l : List (Int × ByteArray)) (w : World) (h : CansIn w a l) (hlen : l.length ≤ 1048576) :
  Calls Tryz.prog 94 #[.slice a l.length cap] w fun e w' => e = .returned (.slice (some ⟨w.heap.size, 0, none⟩) l.length l.length) ∧ NewIn w.heap.size w'.heap.size w' (some ⟨w.heap.size, 0, none⟩) l ∧ Below w.heap.size w w' := by
 obtain ⟨i0, hi, hz0, hz1, hz2⟩ := info_parts CansTo.info
 obtain ⟨N, hN⟩ : ∃ N, l.length = N := ⟨_, rfl⟩
 have HN := Lib.hid hN
 have HH := Lib.hid h
 rw [hN] at hlen ⊢
 clear hN h
 go_enter Tryz.func94, Tryz.ntmps94
 go_wp2_with (at_make; refine wpList_make_full _ rfl (.tmp 6) (.tmp 6) 41 rfl w.heap.size 66 i0 (.agg #[.int .i64 0, .string ByteArray.empty]) 2 Tryz.underlying41 hi hz0 hz1 .i64 .i64 (N : Int) (N : Int) N (by rfl) (by rfl) (by omega) (by omega) (by rw [hz2]; omega) (by unfold maxLen; omega) (Nat.le_refl _) ?_; intro w1 hown hgrow)
 have HB0 := Lib.hid (own_row2 hown)
 have hb1 : Below w.heap.size w w1 := (Below.refl _ _).grown hgrow (Nat.le_refl _) (fun _ h => by cases h)
 have hz : Hid (N = 0 ∨ w.heap.size < w1.heap.size) := Lib.hid (by
  rcases Nat.eq_zero_or_pos N with h | h
  ·exact .inl h
  ·right
   obtain ⟨g, cap', hv, _, hlt⟩ := World.ownsRow.form' hown h
   simp at hv
   omega)
 clear hown hgrow
 rcases Nat.eq_zero_or_pos N with hN0 | hN0
 ·subst hN0
  have hl : l = [] := List.eq_nil_of_length_eq_zero HN.out
  refine wp_loop_rounds 1 ?_
  rw [rounds_succ]; go_wp2
  go_ret
  exact ⟨rfl, .inl (by first | exact hl | rfl), hb1⟩
 have hgz : w.heap.size < w1.heap.size := by have := hz.out; omega
 obtain ⟨b, o, rfl, hlt, hc⟩ : ∃ b o, a = some ⟨b, o, none⟩ ∧ b < w.heap.size ∧ ∀ (i : Nat) x, l[i]? = some x → w.cell? ⟨b, o + i * 2, none⟩ = some (.int .i64 x.1) ∧ w.cell? ⟨b, o + i * 2 + 1, none⟩ = some (.string x.2) := by
  rcases HH.out with h | h
  ·have := HN.out
   rw [h] at this
   simp at this
   omega
  ·exact h
 have HI := Lib.hid hc
 clear hc hz HH
 go_loopw [4] (fun i wr => ∃ k : Nat, i = .int .i64 (k : Int) ∧ k ≤ N ∧ Below w.heap.size w wr ∧ w.heap.size < wr.heap.size ∧
  (∀ j, j < k → wr.cell? ⟨w.heap.size, j * 2, none⟩ = some (.int .i64 (canAt l j).1) ∧ wr.cell? ⟨w.heap.size, j * 2 + 1, none⟩ = some (.string (canAt l j).2)) ∧
  (∀ j, j < N * 2 → (wr.cell? ⟨w.heap.size, j, none⟩).isSome = true ∧ wr.frozen? ⟨w.heap.size, j, none⟩ = false)) (fun i _ => N - (intOf i).toNat)
 case atStart => exact ⟨0, rfl, by omega, hb1, hgz, fun j hj => absurd hj (by omega), HB0.out⟩
 case round =>
  obtain ⟨k, rfl, hk, hb, hsz, hdone, hroom⟩ := hrel
  have HD := Lib.hid hdone
  have HR := Lib.hid hroom
  clear hdone hroom
  by_cases hkn : k < N
  ·have hkl : k < l.length := by have := HN.out; omega
   have d0 := (hb.cell (p := ⟨b, _, none⟩) hlt).trans (HI.out k _ (canAt_some hkl)).1
   have d1 := (hb.cell (p := ⟨b, _, none⟩) hlt).trans (HI.out k _ (canAt_some hkl)).2
   obtain ⟨x, hx⟩ : ∃ x, canAt l k = x := ⟨_, rfl⟩
   rw [hx] at d0 d1
   have HX := Lib.hid hx
   clear hx
   obtain ⟨n, s⟩ := x
   simp only at d0 d1
   obtain ⟨u0, e0⟩ := Option.isSome_iff_exists.1 (HR.out (k * 2) (by omega)).1
   obtain ⟨u1, e1⟩ := Option.isSome_iff_exists.1 (HR.out (k * 2 + 1) (by omega)).1
   have g0 := (HR.out (k * 2) (by omega)).2
   have g1 := (HR.out (k * 2 + 1) (by omega)).2
   go_wp2_with (go_at_call 21; refine (toCan_any _ _ _).mono ?_; rintro e w2 ⟨rfl, h2⟩; have p0 := (h2.cell (p := ⟨w.heap.size, k * 2, none⟩) hsz).trans e0; have p1 := (h2.cell (p := ⟨w.heap.size, k * 2 + 1, none⟩) hsz).trans e1; have r0 := (h2.frozen (p := ⟨w.heap.size, k * 2, none⟩) hsz).trans g0; have r1 := (h2.frozen (p := ⟨w.heap.size, k * 2 + 1, none⟩) hsz).trans g1)
   go_roundw
   case rel =>
    refine ⟨k + 1, by go_num, by omega, ((hb.trans (h2.mono (Nat.le_of_lt hsz))).setCell (by simp) _).setCell (by simp) _, by have := h2.size; simp; omega, fun j hj => ?_, fun j hj => ?_⟩
    ·rcases Nat.lt_or_ge j k with h | h
     ·rw [set2_other (by omega) (by omega), set2_other (by omega) (by omega)]
      exact ⟨(h2.cell (p := ⟨w.heap.size, _, none⟩) hsz).trans (HD.out j h).1, (h2.cell (p := ⟨w.heap.size, _, none⟩) hsz).trans (HD.out j h).2⟩
     ·obtain rfl : j = k := by omega
      rw [HX.out]
      exact set2_same p0 p1
    ·refine ⟨set2_some p0 p1 ?_, ?_⟩
     ·rw [h2.cell (p := ⟨w.heap.size, j, none⟩) hsz]
      exact (HR.out j hj).1
     ·rw [World.frozen?_setCell, World.frozen?_setCell, h2.frozen (p := ⟨w.heap.size, j, none⟩) hsz]
      exact (HR.out j hj).2
   case measure => simp [intOf]; omega
  ·have hge : N ≤ k := by omega
   go_wp2
   go_ret
   exact ⟨rfl, .inr ⟨w.heap.size, 0, rfl, Nat.le_refl _, hsz, hsz, fun j hj => by
    have := (HR.out j (by have := HN.out; omega)).2
    simpa using this, fun i x hx => by
    have hi : i < l.length := (List.getElem?_eq_some_iff.1 hx).1
    have := HD.out i (by have := HN.out; omega)
    rw [canAt_some hi] at hx
    obtain rfl := Option.some.inj hx
    simpa using this⟩, hb⟩

def FourS (wr : World) (p0 p1 p2 p3 : Addr) (v0 v1 v2 v3 : Value) (W : World) : Prop :=
 (W.cell? p0 = some v0 ∧ W.cell? p1 = some v1 ∧ W.cell? p2 = some v2 ∧ W.cell? p3 = some v3) ∧ Below wr.heap.size wr W
theorem four_first {wr : World} {p0 p1 p2 p3 : Addr} {v0 v1 v2 v3 : Value} (h0 : wr.cell? p0 = some v0) (h1 : wr.cell? p1 = some v1) (h2 : wr.cell? p2 = some v2) (h3 : wr.cell? p3 = some v3) : FourS wr p0 p1 p2 p3 v0 v1 v2 v3 wr.drew :=
 ⟨⟨h0, h1, h2, h3⟩, (Below.refl _ _).drew⟩
theorem four_call {wr W W' : World} {p0 p1 p2 p3 : Addr} {v0 v1 v2 v3 : Value} (l0 : p0.block < wr.heap.size) (l1 : p1.block < wr.heap.size) (l2 : p2.block < wr.heap.size) (l3 : p3.block < wr.heap.size) (h : FourS wr p0 p1 p2 p3 v0 v1 v2 v3 W) (hb : Below W.heap.size W W') : FourS wr p0 p1 p2 p3 v0 v1 v2 v3 W' :=
 ⟨⟨(hb.cell (Nat.lt_of_lt_of_le l0 h.2.size)).trans h.1.1, (hb.cell (Nat.lt_of_lt_of_le l1 h.2.size)).trans h.1.2.1, (hb.cell (Nat.lt_of_lt_of_le l2 h.2.size)).trans h.1.2.2.1, (hb.cell (Nat.lt_of_lt_of_le l3 h.2.size)).trans h.1.2.2.2⟩, h.2.trans (hb.mono h.2.size)⟩

set_option maxHeartbeats 2000000 in
theorem eqCanS_same (a a' : Option Addr) (cap cap' : Nat) (l : List (Int × ByteArray)) (w : World) (h : CansIn w a l) (h' : CansIn w a' l) (hlen : l.length ≤ 1048576) :
  Calls Tryz.prog 109 #[.slice a l.length cap, .slice a' l.length cap'] w fun e w' => e = .returned (.bool true) ∧ Below w.heap.size w w' := by
 obtain ⟨N, hN⟩ : ∃ N, l.length = N := ⟨_, rfl⟩
 have HN := Lib.hid hN
 rcases Nat.eq_zero_or_pos N with hN0 | hN0
 ·rw [hN]
  subst hN0
  clear hN hlen h h'
  go_enter Tryz.func109, Tryz.ntmps109
  go_wp2
  refine wp_loop_rounds 1 ?_
  rw [rounds_succ]; go_wp2
  go_ret
  exact ⟨rfl, Below.refl _ _⟩
 rcases h with rfl | ⟨b, o, rfl, hlt, hc⟩
 ·simp at hN
  omega
 rcases h' with rfl | ⟨b', o', rfl, hlt', hc'⟩
 ·simp at hN
  omega
 have HI := Lib.hid hc
 have HI' := Lib.hid hc'
 clear hc hc'
 rw [hN] at hlen ⊢
 clear hN
 go_enter Tryz.func109, Tryz.ntmps109
 go_wp2
 go_loopw [5] (fun i wr => ∃ k : Nat, i = .int .i64 (k : Int) ∧ k ≤ N ∧ Below w.heap.size w wr) (fun i _ => N - (intOf i).toNat)
 case atStart => exact ⟨0, rfl, by omega, Below.refl _ _⟩
 case round =>
  obtain ⟨k, rfl, hk, hb⟩ := hrel
  by_cases hkn : k < N
  ·have hkl : k < l.length := by have := HN.out; omega
   have d0 := (hb.cell (p := ⟨b, _, none⟩) hlt).trans (HI.out k _ (canAt_some hkl)).1
   have d1 := (hb.cell (p := ⟨b, _, none⟩) hlt).trans (HI.out k _ (canAt_some hkl)).2
   have d2 := (hb.cell (p := ⟨b', _, none⟩) hlt').trans (HI'.out k _ (canAt_some hkl)).1
   have d3 := (hb.cell (p := ⟨b', _, none⟩) hlt').trans (HI'.out k _ (canAt_some hkl)).2
   have hbs := hb.size
   have hi1 : (0 : Int) ≤ (k : Int) := by omega
   have hi2 : (k : Int) < (N : Int) := by omega
   generalize canAt l k = x at *
   obtain ⟨n, s⟩ := x
   simp only at d0 d1 d2 d3
   go_wp2_with fail
   go_region_held3 (fun W => (W.cell? ⟨b, o + k * 2, none⟩ = some (.int .i64 n) ∧ W.cell? ⟨b, o + k * 2 + 1, none⟩ = some (.string s) ∧ W.cell? ⟨b', o' + k * 2, none⟩ = some (.int .i64 n) ∧ W.cell? ⟨b', o' + k * 2 + 1, none⟩ = some (.string s)) ∧ Below wr.heap.size wr W)
    (first | assumption | exact four_first d0 d1 d2 d3 | exact four_call (by show b < _; omega) (by show b < _; omega) (by show b' < _; omega) (by show b' < _; omega) (by assumption) (by assumption))
    (first | (go_at_call 173; refine (eqCan_same _ _ _).mono ?_; rintro e w1 ⟨rfl, h1⟩))
   go_wp2
   go_roundw
   case rel => exact ⟨k + 1, by go_num, by omega, hb.drew.trans (h1.mono (show w.heap.size ≤ wr.heap.size from hbs))⟩
   case measure => simp [intOf]; omega
  ·go_wp2
   go_ret
   exact ⟨rfl, hb⟩
end Go.Proofs.YtioldepgoodipaaGreat
namespace Go.Proofs.YtioldepgoodipaaGreat
open Go.RowKit
set_option linter.unusedVariables false

def markAt (k i : Nat) : Int × ByteArray := (((k + 2 * i : Nat) : Int), markT (k + 2 * i + 1))
def marksL (k n : Nat) : List (Int × ByteArray) := (List.range n).map (markAt k)
theorem marksL_length (k n : Nat) : (marksL k n).length = n := by simp [marksL]
theorem marksL_at {k n i : Nat} {x : Int × ByteArray} (h : (marksL k n)[i]? = some x) : i < n ∧ x = markAt k i := by
 unfold marksL at h
 rw [List.getElem?_map] at h
 obtain ⟨j, hj, rfl⟩ := Option.map_eq_some_iff.1 h
 obtain ⟨hi, rfl⟩ := List.getElem?_eq_some_iff.1 hj
 have hi' : i < n := by simpa using hi
 simp [hi']
theorem canAt_marks {k n i : Nat} (h : i < n) : canAt (marksL k n) i = markAt k i := by
 have := canAt_some (l := marksL k n) (i := i) (by rw [marksL_length]; exact h)
 exact (marksL_at this).2

set_option maxHeartbeats 2000000 in
theorem markCanS_any {lo hi : Nat} (a : Option Addr) (cap : Nat) (l : List (Int × ByteArray)) (k : Nat) (w : World) (h : NewIn lo hi w a l) (hk0 : 0 < k) (hk : k + 2 * l.length ≤ 30000000) :
  Calls Tryz.prog 114 #[.slice a l.length cap, .int .i64 (k : Int)] w fun e w' => e = .returned (.int .i64 ((k + 2 * l.length : Nat) : Int)) ∧ NewIn lo hi w' a (marksL k l.length) ∧ Out lo hi w w' := by
 obtain ⟨N, hN⟩ : ∃ N, l.length = N := ⟨_, rfl⟩
 have HN := Lib.hid hN
 rcases Nat.eq_zero_or_pos N with hN0 | hN0
 ·rw [hN]
  subst hN0
  clear hN h
  go_enter Tryz.func114, Tryz.ntmps114
  go_wp2
  refine wp_loop_rounds 1 ?_
  rw [rounds_succ]; go_wp2
  go_ret
  exact ⟨rfl, .inl (by first | rfl | (simp [marksL])), Out.refl _ _ _⟩
 obtain ⟨b, o, rfl, hlo, hhi, hlt, hf, hc⟩ : ∃ b o, a = some ⟨b, o, none⟩ ∧ lo ≤ b ∧ b < hi ∧ b < w.heap.size ∧ (∀ j, j < N * 2 → w.frozen? ⟨b, o + j, none⟩ = false) ∧ (∀ j, j < N * 2 → (w.cell? ⟨b, o + j, none⟩).isSome = true) := by
  rcases h with h | ⟨b, o, h1, h2, h3, h4, h5, h6⟩
  ·rw [h] at hN
   simp at hN
   omega
  ·rw [hN] at h5
   refine ⟨b, o, h1, h2, h3, h4, h5, fun j hj => ?_⟩
   have hx := canAt_some (l := l) (i := j / 2) (by omega)
   have hy := h6 _ _ hx
   rcases Nat.mod_two_eq_zero_or_one j with hm | hm
   ·rw [show o + j = o + j / 2 * 2 by omega, hy.1]
    rfl
   ·rw [show o + j = o + j / 2 * 2 + 1 by omega, hy.2]
    rfl
 have HF := Lib.hid hf
 have HC := Lib.hid hc
 rw [hN] at hk ⊢
 clear hN hf hc h
 go_enter Tryz.func114, Tryz.ntmps114
 go_wp2
 go_loopw [1, 5] (fun u i wr => ∃ m : Nat, i = .int .i64 (m : Int) ∧ u = .int .i64 ((k + 2 * m : Nat) : Int) ∧ m ≤ N ∧ Out lo hi w wr ∧
  (∀ j, j < m → wr.cell? ⟨b, o + j * 2, none⟩ = some (.int .i64 (markAt k j).1) ∧ wr.cell? ⟨b, o + j * 2 + 1, none⟩ = some (.string (markAt k j).2)) ∧
  (∀ j, j < N * 2 → (wr.cell? ⟨b, o + j, none⟩).isSome = true ∧ wr.frozen? ⟨b, o + j, none⟩ = false)) (fun _ i _ => N - (intOf i).toNat)
 case atStart => exact ⟨0, rfl, rfl, by omega, Out.refl _ _ _, fun j hj => absurd hj (by omega), fun j hj => ⟨HC.out j hj, HF.out j hj⟩⟩
 case round =>
  obtain ⟨m, rfl, rfl, hm, hb, hdone, hroom⟩ := hrel
  have HD := Lib.hid hdone
  have HR := Lib.hid hroom
  have hsz := hb.size
  clear hdone hroom
  by_cases hmn : m < N
  ·obtain ⟨u0, e0⟩ := Option.isSome_iff_exists.1 (HR.out (m * 2) (by omega)).1
   obtain ⟨u1, e1⟩ := Option.isSome_iff_exists.1 (HR.out (m * 2 + 1) (by omega)).1
   have g0 := (HR.out (m * 2) (by omega)).2
   have g1 := (HR.out (m * 2 + 1) (by omega)).2
   rw [← Nat.add_assoc] at e1 g1
   have hbw : b < wr.heap.size := by omega
   have hw1 : IntKind.i64.wrap (((k + 2 * m : Nat) : Int) + 1) = ((k + 2 * m + 1 : Nat) : Int) := by rw [IntWalk.i64_in _ (by omega)]; omega
   have hw2 : IntKind.i64.wrap (((k + 2 * m + 1 : Nat) : Int) + 1) = ((k + 2 * (m + 1) : Nat) : Int) := by rw [IntWalk.i64_in _ (by omega)]; omega
   have HM := fun W => Lib.hid (markText_any (k + 2 * m + 1) W (by omega) (by omega))
   have HX := Lib.hid (show ((((k + 2 * m : Nat) : Int), markT (k + 2 * m + 1)) : Int × ByteArray) = markAt k m from rfl)
   obtain ⟨q, hq⟩ : ∃ q, markT (k + 2 * m + 1) = q := ⟨_, rfl⟩
   rw [hq] at HM HX
   clear hq
   obtain ⟨k2, hk2⟩ : ∃ k2, k + 2 * (m + 1) = k2 := ⟨_, rfl⟩
   rw [hk2] at hw2
   have HK := Lib.hid hk2
   clear hk2
   generalize (k + 2 * m + 1) = k1 at *
   generalize (k + 2 * m) = k0 at *
   go_wp2_with fail
   refine (HM _).out.mono ?_
   rintro e w2 ⟨rfl, h2⟩
   have hs2 := h2.size
   simp only [World.size_setCell] at hs2
   have p1 := (h2.cell (p := ⟨b, o + m * 2 + 1, none⟩) (by simpa using hbw)).trans ((World.cell?_setCell_other _ _ _ _ (by simp)).trans e1)
   have r1 := (h2.frozen (p := ⟨b, o + m * 2 + 1, none⟩) (by simpa using hbw)).trans ((World.frozen?_setCell _ _ _ _).trans g1)
   go_wp2_with fail
   go_roundw
   case rel =>
    refine ⟨m + 1, by go_num, by rw [HK.out], by omega, ?_, fun j hj => ?_, fun j hj => ?_⟩
    ·exact ((hb.setCell (p := ⟨b, o + m * 2, none⟩) hlo hhi _).trans (Out.of_below h2)).setCell (p := ⟨b, o + m * 2 + 1, none⟩) hlo hhi _
    ·rcases Nat.lt_or_ge j m with h | h
     ·refine ⟨?_, ?_⟩
      ·rw [World.cell?_setCell_other _ _ _ _ (by simp <;> omega), h2.cell (p := ⟨b, _, none⟩) (by simpa using hbw), World.cell?_setCell_other _ _ _ _ (by simp <;> omega)]
       exact (HD.out j h).1
      ·rw [World.cell?_setCell_other _ _ _ _ (by simp <;> omega), h2.cell (p := ⟨b, _, none⟩) (by simpa using hbw), World.cell?_setCell_other _ _ _ _ (by simp <;> omega)]
       exact (HD.out j h).2
     ·obtain rfl : j = m := by omega
      rw [← HX.out]
      refine ⟨?_, World.cell?_setCell_same _ _ _ p1⟩
      rw [World.cell?_setCell_other _ _ _ _ (by simp), h2.cell (p := ⟨b, _, none⟩) (by simpa using hbw)]
      exact World.cell?_setCell_same _ _ _ e0
    ·rw [World.frozen?_setCell, h2.frozen (p := ⟨b, _, none⟩) (by simpa using hbw), World.frozen?_setCell]
     refine ⟨?_, (HR.out j hj).2⟩
     by_cases q1 : o + j = o + m * 2 + 1
     ·rw [q1, World.cell?_setCell_same _ _ _ p1]
      rfl
     rw [World.cell?_setCell_other _ _ _ _ (by simp <;> omega), h2.cell (p := ⟨b, _, none⟩) (by simpa using hbw)]
     by_cases q2 : o + j = o + m * 2
     ·rw [q2, World.cell?_setCell_same _ _ _ e0]
      rfl
     rw [World.cell?_setCell_other _ _ _ _ (by simp <;> omega)]
     exact (HR.out j hj).1
   case measure => simp [intOf]; omega
  ·have hge : N ≤ m := by omega
   go_wp2_with fail
   go_ret
   exact ⟨by rw [show N = m by omega]; rfl, .inr ⟨b, o, rfl, hlo, hhi, by omega, fun j hj => (HR.out j (by rw [marksL_length] at hj; exact hj)).2, fun i x hx => by
    obtain ⟨hi, rfl⟩ := marksL_at hx
    exact HD.out i (by omega)⟩, hb⟩
set_option maxHeartbeats 2000000 in
theorem heldCanS_any (a : Option Addr) (cap : Nat) (N : Nat) (k : Nat) (w : World) (h : CansIn w a (marksL k N)) (hk0 : 0 < k) (hk : k + 2 * N ≤ 30000000) :
  Calls Tryz.prog 175 #[.slice a N cap, .int .i64 (k : Int)] w fun e w' => e = .returned (.int .i64 ((k + 2 * N : Nat) : Int)) ∧ Below w.heap.size w w' := by
 rcases Nat.eq_zero_or_pos N with hN0 | hN0
 ·subst hN0
  clear h
  go_enter Tryz.func175, Tryz.ntmps175
  go_wp2
  refine wp_loop_rounds 1 ?_
  rw [rounds_succ]; go_wp2
  go_ret
  exact ⟨rfl, Below.refl _ _⟩
 rcases h with h | ⟨b, o, rfl, hlt, hc⟩
 ·have := marksL_length k N
  rw [h] at this
  simp at this
  omega
 have HI := Lib.hid hc
 clear hc
 go_enter Tryz.func175, Tryz.ntmps175
 go_wp2
 go_loopw [1, 5] (fun u i wr => ∃ m : Nat, i = .int .i64 (m : Int) ∧ u = .int .i64 ((k + 2 * m : Nat) : Int) ∧ m ≤ N ∧ Below w.heap.size w wr) (fun _ i _ => N - (intOf i).toNat)
 case atStart => exact ⟨0, rfl, rfl, by omega, Below.refl _ _⟩
 case round =>
  obtain ⟨m, rfl, rfl, hm, hb⟩ := hrel
  have hbs := hb.size
  by_cases hmn : m < N
  ·have hx := HI.out m _ (canAt_some (by rw [marksL_length]; exact hmn))
   rw [canAt_marks hmn] at hx
   have d0 := (hb.cell (p := ⟨b, o + m * 2, none⟩) hlt).trans hx.1
   have d1 := (hb.cell (p := ⟨b, o + m * 2 + 1, none⟩) hlt).trans hx.2
   have hw1 : IntKind.i64.wrap (((k + 2 * m : Nat) : Int) + 1) = ((k + 2 * m + 1 : Nat) : Int) := by rw [IntWalk.i64_in _ (by omega)]; omega
   have hw2 : IntKind.i64.wrap (((k + 2 * m + 1 : Nat) : Int) + 1) = ((k + 2 * (m + 1) : Nat) : Int) := by rw [IntWalk.i64_in _ (by omega)]; omega
   have HM := fun W => Lib.hid (markText_any (k + 2 * m + 1) W (by omega) (by omega))
   unfold markAt at d0 d1
   simp only at d0 d1
   obtain ⟨q, hq⟩ : ∃ q, markT (k + 2 * m + 1) = q := ⟨_, rfl⟩
   rw [hq] at HM d1
   clear hq hx
   obtain ⟨k2, hk2⟩ : ∃ k2, k + 2 * (m + 1) = k2 := ⟨_, rfl⟩
   rw [hk2] at hw2
   have HK := Lib.hid hk2
   clear hk2
   generalize (k + 2 * m + 1) = k1 at *
   generalize (k + 2 * m) = k0 at *
   have hi1 : (0 : Int) ≤ (m : Int) := by omega
   have hi2 : (m : Int) < (N : Int) := by omega
   go_wp2_with fail
   go_region_held3 (fun W => W.cell? ⟨b, o + m * 2 + 1, none⟩ = some (.string q) ∧ Below wr.heap.size wr W)
    (first | assumption | exact one_first d1 | exact one_call (by show b < _; omega) (by assumption) (by assumption))
    (first | (go_at_call 115; refine (HM _).out.mono ?_; rintro e w1 ⟨rfl, h1⟩))
   go_wp2
   go_roundw
   case rel => exact ⟨m + 1, by go_num, by rw [HK.out], by omega, hb.drew.trans (h1.mono hbs)⟩
   case measure => simp [intOf]; omega
  ·have hge : N ≤ m := by omega
   go_wp2_with fail
   go_ret
   exact ⟨by rw [show N = m by omega]; rfl, hb⟩
set_option maxHeartbeats 1000000 in
theorem markQueue_any {lo hi : Nat} (a : Option Addr) (cap : Nat) (l : List (Int × ByteArray)) (k : Nat) (w : World) (h : NewIn lo hi w a l) (hk0 : 0 < k) (hk : k + 2 * l.length ≤ 30000000) :
  Calls Tryz.prog 58 #[.agg #[.slice a l.length cap], .int .i64 (k : Int)] w fun e w' => e = .returned (.int .i64 ((k + 2 * l.length : Nat) : Int)) ∧ NewIn lo hi w' a (marksL k l.length) ∧ Out lo hi w w' := by
 have H := fun W hW => Lib.hid (markCanS_any (lo := lo) (hi := hi) a cap l k W hW hk0 hk)
 have HN := Lib.hid h
 have hb0 := fun o : Obj => (Below.refl w.heap.size w).alloc (Nat.le_refl _) o
 have HB := Lib.hid hb0
 generalize (k + 2 * l.length) = k2 at *
 clear h hb0
 go_enter Tryz.func58, Tryz.ntmps58
 go_wp2_with fail
 refine (H _ (HN.out.kept (HB.out _))).out.mono ?_
 rintro e w1 ⟨rfl, h1, h2⟩
 go_wp2_with fail
 go_ret
 exact ⟨rfl, h1, (Out.of_below (HB.out _)).trans h2⟩
set_option maxHeartbeats 1000000 in
theorem heldQueue_any (a : Option Addr) (cap : Nat) (N : Nat) (k : Nat) (w : World) (h : CansIn w a (marksL k N)) (hk0 : 0 < k) (hk : k + 2 * N ≤ 30000000) :
  Calls Tryz.prog 117 #[.agg #[.slice a N cap], .int .i64 (k : Int)] w fun e w' => e = .returned (.int .i64 ((k + 2 * N : Nat) : Int)) ∧ Below w.heap.size w w' := by
 have H := fun W hW => Lib.hid (heldCanS_any a cap N k W hW hk0 hk)
 have HN := Lib.hid h
 have hb0 := fun o : Obj => (Below.refl w.heap.size w).alloc (Nat.le_refl _) o
 have HB := Lib.hid hb0
 have hk2 : 0 < k + 2 * N := by omega
 generalize (k + 2 * N) = k2 at *
 clear h hb0
 go_enter Tryz.func117, Tryz.ntmps117
 go_wp2_with fail
 refine (H _ (HN.out.kept (HB.out _))).out.mono ?_
 rintro e w1 ⟨rfl, h1⟩
 have hd : decide ((k2 : Int) < 0) = false := decide_eq_false (by omega)
 go_wp2_with fail
 go_ret
 exact ⟨rfl, (HB.out _).trans (h1.mono (by simp))⟩
end Go.Proofs.YtioldepgoodipaaGreat
namespace Go.Proofs.YtioldepgoodipaaGreat
open Go.RowKit Go.Joins
set_option linter.unusedVariables false

set_option maxHeartbeats 1000000 in
theorem szCanS_more (a : Option Addr) (cap : Nat) (l : List (Int × ByteArray)) (m0 : Int) (w : World) (h : CansIn w a l) (hok : CansOk l) (hlen : l.length ≤ maxLen) (hm0 : 0 ≤ m0) (hm1 : m0 ≤ 1048576) :
  Calls Tryz.prog 75 #[.slice a l.length cap, .int .i64 m0] w fun e w' => ∃ m : Int, e = .returned (.int .i64 m) ∧ -1 ≤ m ∧ m ≤ 1048576 ∧ (0 ≤ m → l.length ≤ 1048576) ∧ Below w.heap.size w w' := by
 unfold maxLen at hlen
 by_cases hbig : m0 < l.length
 ·have hd : decide (m0 - (l.length : Int) < 0) = true := decide_eq_true (by omega)
  have hw : IntKind.i64.wrap (m0 - (l.length : Int)) = m0 - l.length := IntWalk.i64_in _ (by omega)
  go_enter Tryz.func75, Tryz.ntmps75
  go_wp2_with fail
  go_ret
  exact ⟨-1, rfl, by omega, by omega, fun q => absurd q (by omega), Below.refl _ _⟩
 ·have hd : decide (m0 - (l.length : Int) < 0) = false := decide_eq_false (by omega)
  have hw : IntKind.i64.wrap (m0 - (l.length : Int)) = m0 - l.length := IntWalk.i64_in _ (by omega)
  obtain ⟨M, hM⟩ : ∃ M : Int, m0 - (l.length : Int) = M := ⟨_, rfl⟩
  rw [hM] at hd hw
  have hM1 : 0 ≤ M ∧ M ≤ 1048576 := by omega
  rcases h with rfl | ⟨b, o, rfl, hlt, hc⟩
  ·go_enter Tryz.func75, Tryz.ntmps75
   go_wp2
   refine wp_loop_rounds 1 ?_
   rw [rounds_succ]; go_wp2
   go_ret
   exact ⟨_, rfl, by omega, by omega, fun _ => by simp, Below.refl _ _⟩
  ·have HI := Lib.hid hc
   have HK := Lib.hid hok
   clear hc hok
   obtain ⟨N, hN⟩ : ∃ N, l.length = N := ⟨_, rfl⟩
   have HN := Lib.hid hN
   rw [hN] at hbig hM ⊢
   clear hN hlen
   have HM := Lib.hid hM
   go_enter Tryz.func75, Tryz.ntmps75
   go_wp2
   go_loopw [1, 5] (fun u i wr => ∃ (k : Nat) (m : Int), i = .int .i64 (k : Int) ∧ u = .int .i64 m ∧ k ≤ N ∧ 0 ≤ m ∧ m ≤ 1048576 ∧ Below w.heap.size w wr) (fun _ i _ => N - (intOf i).toNat)
   case atStart => exact ⟨0, M, rfl, rfl, by omega, hM1.1, hM1.2, Below.refl _ _⟩
   case round =>
    obtain ⟨k, m, rfl, rfl, hk, hm0', hm1', hb⟩ := hrel
    by_cases hkn : k < N
    ·have hkl : k < l.length := by have := HN.out; omega
     have d0 := (hb.cell (p := ⟨b, _, none⟩) hlt).trans (HI.out k _ (canAt_some hkl)).1
     have d1 := (hb.cell (p := ⟨b, _, none⟩) hlt).trans (HI.out k _ (canAt_some hkl)).2
     have hg := canAt_ok HK.out hkl
     have hbs := hb.size
     generalize canAt l k = x at *
     obtain ⟨n, s⟩ := x
     simp only at d0 d1 hg
     have HC := fun W => Lib.hid (szCan_any n s m W hm0' hm1' hg.2)
     by_cases hneg : m - s.size < 0
     ·rw [if_pos hneg] at HC
      have e0 : decide ((-1 : Int) < 0) = true := by decide
      go_wp2_with (go_at_call 19; refine (HC _).out.mono ?_; rintro e w1 ⟨rfl, h1⟩)
      go_ret
      exact ⟨-1, rfl, by omega, by omega, fun q => absurd q (by omega), hb.trans (h1.mono hbs)⟩
     ·rw [if_neg hneg] at HC
      obtain ⟨m', hm'⟩ : ∃ m' : Int, m - s.size = m' := ⟨_, rfl⟩
      rw [hm'] at HC
      have hm2 : 0 ≤ m' ∧ m' ≤ 1048576 := by omega
      clear hm' hneg
      have e0 : decide (m' < 0) = false := decide_eq_false (by omega)
      go_wp2_with (go_at_call 19; refine (HC _).out.mono ?_; rintro e w1 ⟨rfl, h1⟩)
      go_roundw
      case rel => exact ⟨k + 1, m', by go_num, rfl, by omega, hm2.1, hm2.2, hb.trans (h1.mono hbs)⟩
      case measure => simp [intOf]; omega
    ·go_wp2
     go_ret
     exact ⟨m, rfl, by omega, hm1', fun _ => by have := HM.out; omega, hb⟩
set_option maxHeartbeats 1000000 in
theorem szQueue_any (a : Option Addr) (cap : Nat) (l : List (Int × ByteArray)) (m0 : Int) (w : World) (h : CansIn w a l) (hok : CansOk l) (hlen : l.length ≤ maxLen) (hm0 : 0 ≤ m0) (hm1 : m0 ≤ 1048576) :
  Calls Tryz.prog 26 #[.agg #[.slice a l.length cap], .int .i64 m0] w fun e w' => ∃ m : Int, e = .returned (.int .i64 m) ∧ -1 ≤ m ∧ m ≤ 1048576 ∧ (0 ≤ m → l.length ≤ 1048576) ∧ Below w.heap.size w w' := by
 have H := fun W hW => Lib.hid (szCanS_more a cap l m0 W hW hok hlen hm0 hm1)
 have HC := Lib.hid h
 have HB := Lib.hid (fun o : Obj => (Below.refl w.heap.size w).alloc (Nat.le_refl _) o)
 clear h hok hlen
 go_enter Tryz.func26, Tryz.ntmps26
 go_wp2_with fail
 refine (H _ (HC.out.kept (HB.out _))).out.mono ?_
 rintro e w1 ⟨m, rfl, h1, h2, h3, h4⟩
 have b1 := (HB.out _).trans (h4.mono (by simp))
 have H3 := Lib.hid h3
 clear h3 h4
 by_cases hneg : m < 0
 ·have hd : decide (m < 0) = true := decide_eq_true hneg
  go_wp2_with fail
  go_ret
  exact ⟨-1, rfl, by omega, by omega, fun q => absurd q (by omega), b1⟩
 ·have hd : decide (m < 0) = false := decide_eq_false hneg
  go_wp2_with fail
  go_ret
  exact ⟨m, rfl, h1, h2, H3.out, b1⟩
set_option maxHeartbeats 1000000 in
theorem toQueue_new (a : Option Addr) (cap : Nat) (l : List (Int × ByteArray)) (w : World) (h : CansIn w a l) (hlen : l.length ≤ 1048576) :
  Calls Tryz.prog 40 #[.agg #[.slice a l.length cap]] w fun e w' => ∃ b, e = .returned (.agg #[.slice (some ⟨b, 0, none⟩) l.length l.length]) ∧ NewIn w.heap.size w'.heap.size w' (some ⟨b, 0, none⟩) l ∧ Below w.heap.size w w' := by
 have HC := Lib.hid h
 have HB := Lib.hid (fun o o' o2 : Obj => (((Below.refl w.heap.size w).alloc (Nat.le_refl _) o).alloc (by simp) o').alloc (by simp; omega) o2)
 clear h
 go_enter Tryz.func40, Tryz.ntmps40
 go_wp2_with fail
 refine (toCanS_new a cap l _ (HC.out.kept (HB.out _ _ _)) hlen).mono ?_
 rintro e w1 ⟨rfl, hn1, h1⟩
 have b1 := (HB.out _ _ _).trans (h1.mono (by simp; omega))
 have HR := ((RowAt.new _ _ _).alloc _).kept h1
 have HV := (RowAt.new _ _ _).kept h1
 simp only [World.size_alloc] at HR HV hn1 ⊢
 have HN1 := Lib.hid hn1
 have hs := HV.lt
 have x0 := HR.get 0 _ rfl
 have x1 := HR.free
 have v0 := HV.get 0 _ rfl
 have v1 := HV.free
 clear HR HV h1 hn1
 go_wp2
 refine bodyPost_ret (v := .agg #[.slice (some ⟨w.heap.size + 1 + 1 + 1, 0, none⟩) l.length l.length]) (by simp [results, Tryz.results40, go_sem, x0]) rfl
  ⟨_, rfl, ?_, (b1.setCell (by simp <;> omega) _).setCell (by simp) _⟩
 refine NewIn.wide (lo := w.heap.size + 1 + 1 + 1) (hi := w1.heap.size) (NewIn.out (lo' := w.heap.size + 1) (hi' := w.heap.size + 3) HN1.out ?_ (.inr (by omega))) (by omega) (by simp)
 exact ((Out.refl _ _ _).setCell (by simp <;> omega) (by simp <;> omega) _).setCell (by simp) (by simp <;> omega) _
set_option maxHeartbeats 1000000 in
theorem eqQueue_same (a a' : Option Addr) (cap cap' : Nat) (l : List (Int × ByteArray)) (w : World) (h : CansIn w a l) (h' : CansIn w a' l) (hlen : l.length ≤ 1048576) :
  Calls Tryz.prog 52 #[.agg #[.slice a l.length cap], .agg #[.slice a' l.length cap']] w fun e w' => e = .returned (.bool true) ∧ Below w.heap.size w w' := by
 have HC := Lib.hid h
 have HC' := Lib.hid h'
 have HB := Lib.hid (fun o o' : Obj => ((Below.refl w.heap.size w).alloc (Nat.le_refl _) o).alloc (by simp) o')
 clear h h'
 go_enter Tryz.func52, Tryz.ntmps52
 go_wp2_with fail
 refine (eqCanS_same a a' cap cap' l _ (HC.out.kept (HB.out _ _)) (HC'.out.kept (HB.out _ _)) hlen).mono ?_
 rintro e w1 ⟨rfl, h1⟩
 go_wp2
 go_ret
 exact ⟨rfl, (HB.out _ _).trans (h1.mono (by simp; omega))⟩
end Go.Proofs.YtioldepgoodipaaGreat
