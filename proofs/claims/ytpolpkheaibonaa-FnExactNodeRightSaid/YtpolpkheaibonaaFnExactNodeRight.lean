/- For every Node the program's NodeRight answers as the model's NodeRight does, and the Node stays as it was. -/
import Derived.Test.YtpolpkheaibonaaRows
import Derived.Test.YtpolpkheaibonaaNrB
import Derived.WalkKit
import Derived.ProofKit
import Derived.OpenShut
import Derived.ShutString
import Derived.ChangeOld
import Derived.Below
import Derived.Carry
namespace Go.Proofs.Ytpolpkheaibonaa.fnExactNodeRight
open Go.ChangeShapes Go.WideShapes Go.ChangeAt Go.RowKit
open Go.ChangeMaps (open_string shut_string)
set_option linter.unusedVariables false

theorem own : ownKnob Try.prog.godebug = none := by kernel_rfl

set_option maxRecDepth 100000 in
set_option maxHeartbeats 100000000 in
theorem walk (w : World) (v0 : Value) (k0 : IsNd w v0) :
    Calls Try.prog 6 #[v0] w fun e w' => e = .returned (.bool true) ∧ Below w.heap.size w w' := by
  obtain ⟨x, a1, a2, a3, a4, a5, c1, c2, c3, c4, c5, rfl, hin, ⟨-, hok1, hok2, -, hok3⟩, hlen⟩ := k0
  have hok : NdOk x := ⟨hok1, hok2, fun i hi => (hok3 _ (List.mem_of_getElem? (gtAt_some hi))).2.2⟩
  have HS := fun W h => Lib.hid (szNode_any x a1 a2 a3 a4 a5 c1 c2 c3 c4 c5 W h ⟨hok1, hok2, hok3⟩ hlen)
  have HI := Lib.hid hin
  clear hin hok1 hok2 hok3
  have HX := fun (hs : NdSmall x) => Lib.hid (And.intro (fun W h => toNode_new x a1 a2 a3 a4 a5 c1 c2 c3 c4 c5 W h hs) (And.intro (fun W y1 y2 y3 y4 y5 z1 z2 z3 z4 z5 h h' => eqNode_same x y1 y2 y3 y4 y5 z1 z2 z3 z4 z5 x.c.tk.length x.q.length x.t.length x.d.length x.g.length x.c.tk.length x.q.length x.t.length x.d.length x.g.length W h h' hs) (And.intro (fun W y1 y2 y3 y4 y5 h => specNodeRight_any x y1 y2 y3 y4 y5 x.c.tk.length x.q.length x.t.length x.d.length x.g.length W h hok hs) (fun W y1 y2 y3 y4 y5 h => implNodeRight_any x y1 y2 y3 y4 y5 x.c.tk.length x.q.length x.t.length x.d.length x.g.length W h hok hs (Nat.le_refl _)))))
  clear hok hlen
  unfold ndV at *
  generalize eN1 : x.c.tk.length = N1 at *
  generalize eN2 : x.q.length = N2 at *
  generalize eN3 : x.t.length = N3 at *
  generalize eN4 : x.d.length = N4 at *
  generalize eN5 : x.g.length = N5 at *
  have HEN := Lib.hid (And.intro eN1 (And.intro eN2 (And.intro eN3 (And.intro eN4 eN5))))
  clear eN1 eN2 eN3 eN4 eN5
  go_enter Try.func6, Try.ntmps6
  go_wp2_with (first
    | (refine wpList_box_h rfl 56 (.tmp 0) rfl #[.int .i64 x.c.n.u, .int .i64 x.c.n.m, .int .i64 x.c.n.i, .int .i64 x.c.n.f, .int .i64 x.c.n.c, .int .i64 x.c.n.s, .int .i64 x.c.n.y, .bool x.c.n.a, .int .i64 x.c.ad, .int .i64 x.c.st, .int .i64 x.c.lf, .slice a1 N1 c1, .slice a2 N2 c2, .slice a3 N3 c3, .slice a4 N4 c4, .slice a5 N5 c5, .int .i64 x.s] rfl ?_; intro w1 R1 e1 g1 b1; have HL1 := Lib.hid (show Lg w w1 [(R1, #[.int .i64 x.c.n.u, .int .i64 x.c.n.m, .int .i64 x.c.n.i, .int .i64 x.c.n.f, .int .i64 x.c.n.c, .int .i64 x.c.n.s, .int .i64 x.c.n.y, .bool x.c.n.a, .int .i64 x.c.ad, .int .i64 x.c.st, .int .i64 x.c.lf, .slice a1 N1 c1, .slice a2 N2 c2, .slice a3 N3 c3, .slice a4 N4 c4, .slice a5 N5 c5, .int .i64 x.s], 56)] [] from (Lg.first w).box e1 g1 b1); clear g1 b1 e1)
    | (refine wpList_load_at rfl 56 (.tmp 1) rfl (R1) 0 rfl 56 #[.int .i64 x.c.n.u, .int .i64 x.c.n.m, .int .i64 x.c.n.i, .int .i64 x.c.n.f, .int .i64 x.c.n.c, .int .i64 x.c.n.s, .int .i64 x.c.n.y, .bool x.c.n.a, .int .i64 x.c.ad, .int .i64 x.c.st, .int .i64 x.c.lf, .slice a1 N1 c1, .slice a2 N2 c2, .slice a3 N3 c3, .slice a4 N4 c4, .slice a5 N5 c5, .int .i64 x.s] (0, 0) (HL1.out.get (.head _)) [.int .i64 x.c.n.u, .int .i64 x.c.n.m, .int .i64 x.c.n.i, .int .i64 x.c.n.f, .int .i64 x.c.n.c, .int .i64 x.c.n.s, .int .i64 x.c.n.y, .bool x.c.n.a, .int .i64 x.c.ad, .int .i64 x.c.st, .int .i64 x.c.lf, .slice a1 N1 c1, .slice a2 N2 c2, .slice a3 N3 c3, .slice a4 N4 c4, .slice a5 N5 c5, .int .i64 x.s] rfl _ Try.underlying56 rfl (by kernel_rfl) ?_))
  refine ((HS _ (HI.out.kept HL1.out.below)).out).mono ?_
  rintro e w2 ⟨m, rfl, hm0, hm1, hm2, h⟩
  have HL2 := Lib.hid (show Lg w w2 [(R1, #[.int .i64 x.c.n.u, .int .i64 x.c.n.m, .int .i64 x.c.n.i, .int .i64 x.c.n.f, .int .i64 x.c.n.c, .int .i64 x.c.n.s, .int .i64 x.c.n.y, .bool x.c.n.a, .int .i64 x.c.ad, .int .i64 x.c.st, .int .i64 x.c.lf, .slice a1 N1 c1, .slice a2 N2 c2, .slice a3 N3 c3, .slice a4 N4 c4, .slice a5 N5 c5, .int .i64 x.s], 56)] [] from HL1.out.kept h)
  clear h
  by_cases hneg : m < 0
  · have hd : decide (m < 0) = true := decide_eq_true hneg
    go_wp2_with fail
    go_ret
    exact ⟨rfl, HL2.out.below⟩
  have hd : decide (m < 0) = false := decide_eq_false hneg
  have hs := hm2 (by omega)
  have HXX := (HX hs).out
  clear hm2 hneg HS HX
  have HT := fun W h => Lib.hid (HXX.1 W h)
  have HE := fun W y1 y2 y3 y4 y5 z1 z2 z3 z4 z5 h h' => Lib.hid (HXX.2.1 W y1 y2 y3 y4 y5 z1 z2 z3 z4 z5 h h')
  have HP := fun W y1 y2 y3 y4 y5 h => Lib.hid (HXX.2.2.1 W y1 y2 y3 y4 y5 h)
  have HQ := fun W y1 y2 y3 y4 y5 h => Lib.hid (HXX.2.2.2 W y1 y2 y3 y4 y5 h)
  clear HXX hs
  generalize ndB x = V at *
  have hVV : (V != V) = false := by simp
  go_wp2_with (first
    | (refine wpList_load_at rfl 56 (.tmp 1) rfl (R1) 0 rfl 56 #[.int .i64 x.c.n.u, .int .i64 x.c.n.m, .int .i64 x.c.n.i, .int .i64 x.c.n.f, .int .i64 x.c.n.c, .int .i64 x.c.n.s, .int .i64 x.c.n.y, .bool x.c.n.a, .int .i64 x.c.ad, .int .i64 x.c.st, .int .i64 x.c.lf, .slice a1 N1 c1, .slice a2 N2 c2, .slice a3 N3 c3, .slice a4 N4 c4, .slice a5 N5 c5, .int .i64 x.s] (0, 0) (HL2.out.get (.head _)) [.int .i64 x.c.n.u, .int .i64 x.c.n.m, .int .i64 x.c.n.i, .int .i64 x.c.n.f, .int .i64 x.c.n.c, .int .i64 x.c.n.s, .int .i64 x.c.n.y, .bool x.c.n.a, .int .i64 x.c.ad, .int .i64 x.c.st, .int .i64 x.c.lf, .slice a1 N1 c1, .slice a2 N2 c2, .slice a3 N3 c3, .slice a4 N4 c4, .slice a5 N5 c5, .int .i64 x.s] rfl _ Try.underlying56 rfl (by kernel_rfl) ?_))
  refine ((HT _ (HI.out.kept HL2.out.below)).out).mono ?_
  rintro e w3 ⟨y3a, y3b, y3c, y3d, y3e, rfl, hn, h⟩
  obtain ⟨L3, e3⟩ : ∃ x, w2.heap.size = x := ⟨_, rfl⟩
  obtain ⟨H3, f3⟩ : ∃ x, w3.heap.size = x := ⟨_, rfl⟩
  have qL3_R1 : R1 < L3 := Nat.lt_of_lt_of_eq (HL2.out.lt (.head _)) e3
  have qH3_L3 : L3 ≤ H3 := (by rw [← e3, ← f3]; exact h.size)
  have HL3 := Lib.hid (show Lg w w3 [(R1, #[.int .i64 x.c.n.u, .int .i64 x.c.n.m, .int .i64 x.c.n.i, .int .i64 x.c.n.f, .int .i64 x.c.n.c, .int .i64 x.c.n.s, .int .i64 x.c.n.y, .bool x.c.n.a, .int .i64 x.c.ad, .int .i64 x.c.st, .int .i64 x.c.lf, .slice a1 N1 c1, .slice a2 N2 c2, .slice a3 N3 c3, .slice a4 N4 c4, .slice a5 N5 c5, .int .i64 x.s], 56)] [(L3, H3, fun W => NdNew L3 H3 W y3a y3b y3c y3d y3e x)] from HL2.out.made e3 f3 h (by rw [← e3, ← f3]; exact hn.solid))
  clear h hn e3 f3
  go_wp2_with fail
  refine ((HP _ _ _ _ _ _ (HL3.out.at (.head _)).ins).out).mono ?_
  rintro e w4 ⟨rfl, h⟩
  have HL4 := Lib.hid (show Lg w w4 [(R1, #[.int .i64 x.c.n.u, .int .i64 x.c.n.m, .int .i64 x.c.n.i, .int .i64 x.c.n.f, .int .i64 x.c.n.c, .int .i64 x.c.n.s, .int .i64 x.c.n.y, .bool x.c.n.a, .int .i64 x.c.ad, .int .i64 x.c.st, .int .i64 x.c.lf, .slice a1 N1 c1, .slice a2 N2 c2, .slice a3 N3 c3, .slice a4 N4 c4, .slice a5 N5 c5, .int .i64 x.s], 56)] [(L3, H3, fun W => NdNew L3 H3 W y3a y3b y3c y3d y3e x)] from HL3.out.kept h)
  clear h
  go_wp2_with (first
    | (refine wpList_load_at rfl 56 (.tmp 1) rfl (R1) 0 rfl 56 #[.int .i64 x.c.n.u, .int .i64 x.c.n.m, .int .i64 x.c.n.i, .int .i64 x.c.n.f, .int .i64 x.c.n.c, .int .i64 x.c.n.s, .int .i64 x.c.n.y, .bool x.c.n.a, .int .i64 x.c.ad, .int .i64 x.c.st, .int .i64 x.c.lf, .slice a1 N1 c1, .slice a2 N2 c2, .slice a3 N3 c3, .slice a4 N4 c4, .slice a5 N5 c5, .int .i64 x.s] (0, 0) (HL4.out.get (.head _)) [.int .i64 x.c.n.u, .int .i64 x.c.n.m, .int .i64 x.c.n.i, .int .i64 x.c.n.f, .int .i64 x.c.n.c, .int .i64 x.c.n.s, .int .i64 x.c.n.y, .bool x.c.n.a, .int .i64 x.c.ad, .int .i64 x.c.st, .int .i64 x.c.lf, .slice a1 N1 c1, .slice a2 N2 c2, .slice a3 N3 c3, .slice a4 N4 c4, .slice a5 N5 c5, .int .i64 x.s] rfl _ Try.underlying56 rfl (by kernel_rfl) ?_))
  refine ((HT _ (HI.out.kept HL4.out.below)).out).mono ?_
  rintro e w5 ⟨y5a, y5b, y5c, y5d, y5e, rfl, hn, h⟩
  obtain ⟨L5, e5⟩ : ∃ x, w4.heap.size = x := ⟨_, rfl⟩
  obtain ⟨H5, f5⟩ : ∃ x, w5.heap.size = x := ⟨_, rfl⟩
  have qL5_R1 : R1 < L5 := Nat.lt_of_lt_of_eq (HL4.out.lt (.head _)) e5
  have qL5_H3 : H3 ≤ L5 := Nat.le_trans (HL4.out.hi (.head _)).2 (Nat.le_of_eq e5)
  have qH5_L5 : L5 ≤ H5 := (by rw [← e5, ← f5]; exact h.size)
  have HL5 := Lib.hid (show Lg w w5 [(R1, #[.int .i64 x.c.n.u, .int .i64 x.c.n.m, .int .i64 x.c.n.i, .int .i64 x.c.n.f, .int .i64 x.c.n.c, .int .i64 x.c.n.s, .int .i64 x.c.n.y, .bool x.c.n.a, .int .i64 x.c.ad, .int .i64 x.c.st, .int .i64 x.c.lf, .slice a1 N1 c1, .slice a2 N2 c2, .slice a3 N3 c3, .slice a4 N4 c4, .slice a5 N5 c5, .int .i64 x.s], 56)] [(L5, H5, fun W => NdNew L5 H5 W y5a y5b y5c y5d y5e x), (L3, H3, fun W => NdNew L3 H3 W y3a y3b y3c y3d y3e x)] from HL4.out.made e5 f5 h (by rw [← e5, ← f5]; exact hn.solid))
  clear h hn e5 f5
  go_wp2_with (first
    | (refine wpList_alloc_h rfl 66 rfl (.agg #[.int .i64 0, .int .i64 0, .int .i64 0, .int .i64 0, .int .i64 0, .int .i64 0, .int .i64 0, .bool false, .int .i64 0, .int .i64 0, .int .i64 0, .slice none 0 0, .slice none 0 0, .slice none 0 0, .slice none 0 0, .slice none 0 0, .int .i64 0]) (by kernel_rfl) #[.int .i64 0, .int .i64 0, .int .i64 0, .int .i64 0, .int .i64 0, .int .i64 0, .int .i64 0, .bool false, .int .i64 0, .int .i64 0, .int .i64 0, .slice none 0 0, .slice none 0 0, .slice none 0 0, .slice none 0 0, .slice none 0 0, .int .i64 0] rfl ?_; intro w6 R6 e6 g6 b6; have qR6_R1 : R1 < R6 := Nat.lt_of_lt_of_eq (HL5.out.lt (.head _)) e6; have qR6_H5 : H5 ≤ R6 := Nat.le_trans (HL5.out.hi (.head _)).2 (Nat.le_of_eq e6); have qR6_H3 : H3 ≤ R6 := Nat.le_trans (HL5.out.hi (.tail _ (.head _))).2 (Nat.le_of_eq e6); have HL6 := Lib.hid (show Lg w w6 [(R6, #[.int .i64 0, .int .i64 0, .int .i64 0, .int .i64 0, .int .i64 0, .int .i64 0, .int .i64 0, .bool false, .int .i64 0, .int .i64 0, .int .i64 0, .slice none 0 0, .slice none 0 0, .slice none 0 0, .slice none 0 0, .slice none 0 0, .int .i64 0], 66), (R1, #[.int .i64 x.c.n.u, .int .i64 x.c.n.m, .int .i64 x.c.n.i, .int .i64 x.c.n.f, .int .i64 x.c.n.c, .int .i64 x.c.n.s, .int .i64 x.c.n.y, .bool x.c.n.a, .int .i64 x.c.ad, .int .i64 x.c.st, .int .i64 x.c.lf, .slice a1 N1 c1, .slice a2 N2 c2, .slice a3 N3 c3, .slice a4 N4 c4, .slice a5 N5 c5, .int .i64 x.s], 56)] [(L5, H5, fun W => NdNew L5 H5 W y5a y5b y5c y5d y5e x), (L3, H3, fun W => NdNew L3 H3 W y3a y3b y3c y3d y3e x)] from HL5.out.box e6 g6 b6); clear g6 b6 e6)
    | (refine wpList_put_at rfl 66 (.tmp 5) (.tmp 16) rfl rfl (R6) 0 rfl (.agg #[.int .i64 x.c.n.u, .int .i64 x.c.n.m, .int .i64 x.c.n.i, .int .i64 x.c.n.f, .int .i64 x.c.n.c, .int .i64 x.c.n.s, .int .i64 x.c.n.y, .bool x.c.n.a, .int .i64 x.c.ad, .int .i64 x.c.st, .int .i64 x.c.lf, .slice y5a N1 N1, .slice y5b N2 N2, .slice y5c N3 N3, .slice y5d N4 N4, .slice y5e N5 N5, .int .i64 x.s]) rfl #[.int .i64 x.c.n.u, .int .i64 x.c.n.m, .int .i64 x.c.n.i, .int .i64 x.c.n.f, .int .i64 x.c.n.c, .int .i64 x.c.n.s, .int .i64 x.c.n.y, .bool x.c.n.a, .int .i64 x.c.ad, .int .i64 x.c.st, .int .i64 x.c.lf, .slice y5a N1 N1, .slice y5b N2 N2, .slice y5c N3 N3, .slice y5d N4 N4, .slice y5e N5 N5, .int .i64 x.s] rfl 66 #[.int .i64 0, .int .i64 0, .int .i64 0, .int .i64 0, .int .i64 0, .int .i64 0, .int .i64 0, .bool false, .int .i64 0, .int .i64 0, .int .i64 0, .slice none 0 0, .slice none 0 0, .slice none 0 0, .slice none 0 0, .slice none 0 0, .int .i64 0] #[.int .i64 x.c.n.u, .int .i64 x.c.n.m, .int .i64 x.c.n.i, .int .i64 x.c.n.f, .int .i64 x.c.n.c, .int .i64 x.c.n.s, .int .i64 x.c.n.y, .bool x.c.n.a, .int .i64 x.c.ad, .int .i64 x.c.st, .int .i64 x.c.lf, .slice y5a N1 N1, .slice y5b N2 N2, .slice y5c N3 N3, .slice y5d N4 N4, .slice y5e N5 N5, .int .i64 x.s] (HL6.out.get (.head _)) (by kernel_rfl) (by kernel_rfl) (by kernel_rfl) (by kernel_rfl) ?_; intro w7 g7 o7; have HL7 := Lib.hid (show Lg w w7 [(R6, #[.int .i64 x.c.n.u, .int .i64 x.c.n.m, .int .i64 x.c.n.i, .int .i64 x.c.n.f, .int .i64 x.c.n.c, .int .i64 x.c.n.s, .int .i64 x.c.n.y, .bool x.c.n.a, .int .i64 x.c.ad, .int .i64 x.c.st, .int .i64 x.c.lf, .slice y5a N1 N1, .slice y5b N2 N2, .slice y5c N3 N3, .slice y5d N4 N4, .slice y5e N5 N5, .int .i64 x.s], 66), (R1, #[.int .i64 x.c.n.u, .int .i64 x.c.n.m, .int .i64 x.c.n.i, .int .i64 x.c.n.f, .int .i64 x.c.n.c, .int .i64 x.c.n.s, .int .i64 x.c.n.y, .bool x.c.n.a, .int .i64 x.c.ad, .int .i64 x.c.st, .int .i64 x.c.lf, .slice a1 N1 c1, .slice a2 N2 c2, .slice a3 N3 c3, .slice a4 N4 c4, .slice a5 N5 c5, .int .i64 x.s], 56)] [(L5, H5, fun W => NdNew L5 H5 W y5a y5b y5c y5d y5e x), (L3, H3, fun W => NdNew L3 H3 W y3a y3b y3c y3d y3e x)] from HL6.out.put 0 rfl g7 o7 (List.forall_mem_cons.2 ⟨Nat.ne_of_lt qR6_R1, (fun _ h => nomatch h)⟩) (List.forall_mem_cons.2 ⟨.inl qR6_H5, (List.forall_mem_cons.2 ⟨.inl qR6_H3, (fun _ h => nomatch h)⟩)⟩) rfl); clear g7 o7)
    | (refine wpList_load_at rfl 66 (.tmp 5) rfl (R6) 0 rfl 66 #[.int .i64 x.c.n.u, .int .i64 x.c.n.m, .int .i64 x.c.n.i, .int .i64 x.c.n.f, .int .i64 x.c.n.c, .int .i64 x.c.n.s, .int .i64 x.c.n.y, .bool x.c.n.a, .int .i64 x.c.ad, .int .i64 x.c.st, .int .i64 x.c.lf, .slice y5a N1 N1, .slice y5b N2 N2, .slice y5c N3 N3, .slice y5d N4 N4, .slice y5e N5 N5, .int .i64 x.s] (0, 0) (HL7.out.get (.head _)) [.int .i64 x.c.n.u, .int .i64 x.c.n.m, .int .i64 x.c.n.i, .int .i64 x.c.n.f, .int .i64 x.c.n.c, .int .i64 x.c.n.s, .int .i64 x.c.n.y, .bool x.c.n.a, .int .i64 x.c.ad, .int .i64 x.c.st, .int .i64 x.c.lf, .slice y5a N1 N1, .slice y5b N2 N2, .slice y5c N3 N3, .slice y5d N4 N4, .slice y5e N5 N5, .int .i64 x.s] rfl _ Try.underlying66 rfl (by kernel_rfl) ?_))
  refine ((HQ _ _ _ _ _ _ (HL7.out.at (.head _)).ins).out).mono ?_
  rintro e w8 ⟨rfl, h⟩
  have HL8 := Lib.hid (show Lg w w8 [(R6, #[.int .i64 x.c.n.u, .int .i64 x.c.n.m, .int .i64 x.c.n.i, .int .i64 x.c.n.f, .int .i64 x.c.n.c, .int .i64 x.c.n.s, .int .i64 x.c.n.y, .bool x.c.n.a, .int .i64 x.c.ad, .int .i64 x.c.st, .int .i64 x.c.lf, .slice y5a N1 N1, .slice y5b N2 N2, .slice y5c N3 N3, .slice y5d N4 N4, .slice y5e N5 N5, .int .i64 x.s], 66), (R1, #[.int .i64 x.c.n.u, .int .i64 x.c.n.m, .int .i64 x.c.n.i, .int .i64 x.c.n.f, .int .i64 x.c.n.c, .int .i64 x.c.n.s, .int .i64 x.c.n.y, .bool x.c.n.a, .int .i64 x.c.ad, .int .i64 x.c.st, .int .i64 x.c.lf, .slice a1 N1 c1, .slice a2 N2 c2, .slice a3 N3 c3, .slice a4 N4 c4, .slice a5 N5 c5, .int .i64 x.s], 56)] [(L5, H5, fun W => NdNew L5 H5 W y5a y5b y5c y5d y5e x), (L3, H3, fun W => NdNew L3 H3 W y3a y3b y3c y3d y3e x)] from HL7.out.kept h)
  clear h
  go_wp2_with fail
  have HK := Lib.hid (show ∀ W, Below w8.heap.size w8 W → (((W.cell? ⟨R6, 0, none⟩ = some (.int .i64 x.c.n.u) ∧ W.cell? ⟨R6, 1, none⟩ = some (.int .i64 x.c.n.m) ∧ W.cell? ⟨R6, 2, none⟩ = some (.int .i64 x.c.n.i) ∧ W.cell? ⟨R6, 3, none⟩ = some (.int .i64 x.c.n.f) ∧ W.cell? ⟨R6, 4, none⟩ = some (.int .i64 x.c.n.c) ∧ W.cell? ⟨R6, 5, none⟩ = some (.int .i64 x.c.n.s) ∧ W.cell? ⟨R6, 6, none⟩ = some (.int .i64 x.c.n.y) ∧ W.cell? ⟨R6, 7, none⟩ = some (.bool x.c.n.a) ∧ W.cell? ⟨R6, 8, none⟩ = some (.int .i64 x.c.ad) ∧ W.cell? ⟨R6, 9, none⟩ = some (.int .i64 x.c.st) ∧ W.cell? ⟨R6, 10, none⟩ = some (.int .i64 x.c.lf) ∧ W.cell? ⟨R6, 11, none⟩ = some (.slice y5a N1 N1) ∧ W.cell? ⟨R6, 12, none⟩ = some (.slice y5b N2 N2) ∧ W.cell? ⟨R6, 13, none⟩ = some (.slice y5c N3 N3) ∧ W.cell? ⟨R6, 14, none⟩ = some (.slice y5d N4 N4) ∧ W.cell? ⟨R6, 15, none⟩ = some (.slice y5e N5 N5) ∧ W.cell? ⟨R6, 16, none⟩ = some (.int .i64 x.s)) ∧ (W.cell? ⟨R1, 0, none⟩ = some (.int .i64 x.c.n.u) ∧ W.cell? ⟨R1, 1, none⟩ = some (.int .i64 x.c.n.m) ∧ W.cell? ⟨R1, 2, none⟩ = some (.int .i64 x.c.n.i) ∧ W.cell? ⟨R1, 3, none⟩ = some (.int .i64 x.c.n.f) ∧ W.cell? ⟨R1, 4, none⟩ = some (.int .i64 x.c.n.c) ∧ W.cell? ⟨R1, 5, none⟩ = some (.int .i64 x.c.n.s) ∧ W.cell? ⟨R1, 6, none⟩ = some (.int .i64 x.c.n.y) ∧ W.cell? ⟨R1, 7, none⟩ = some (.bool x.c.n.a) ∧ W.cell? ⟨R1, 8, none⟩ = some (.int .i64 x.c.ad) ∧ W.cell? ⟨R1, 9, none⟩ = some (.int .i64 x.c.st) ∧ W.cell? ⟨R1, 10, none⟩ = some (.int .i64 x.c.lf) ∧ W.cell? ⟨R1, 11, none⟩ = some (.slice a1 N1 c1) ∧ W.cell? ⟨R1, 12, none⟩ = some (.slice a2 N2 c2) ∧ W.cell? ⟨R1, 13, none⟩ = some (.slice a3 N3 c3) ∧ W.cell? ⟨R1, 14, none⟩ = some (.slice a4 N4 c4) ∧ W.cell? ⟨R1, 15, none⟩ = some (.slice a5 N5 c5) ∧ W.cell? ⟨R1, 16, none⟩ = some (.int .i64 x.s))) ∧ Below w8.heap.size w8 W) from fun W hW => by
    have hX := (hW.block R6 (HL8.out.lt (.head _))).trans (HL8.out.get (.head _))
    have hA := (hW.block R1 (HL8.out.lt (.tail _ (.head _)))).trans (HL8.out.get (.tail _ (.head _)))
    refine ⟨⟨⟨?_, ?_, ?_, ?_, ?_, ?_, ?_, ?_, ?_, ?_, ?_, ?_, ?_, ?_, ?_, ?_, ?_⟩, ?_, ?_, ?_, ?_, ?_, ?_, ?_, ?_, ?_, ?_, ?_, ?_, ?_, ?_, ?_, ?_, ?_⟩, hW⟩
    all_goals first | (rw [cell_of_row W R6 _ _ _ (0, 0) hX]; rfl) | (rw [cell_of_row W R1 _ _ _ (0, 0) hA]; rfl))
  go_region_held3 (fun W => ((W.cell? ⟨R6, 0, none⟩ = some (.int .i64 x.c.n.u) ∧ W.cell? ⟨R6, 1, none⟩ = some (.int .i64 x.c.n.m) ∧ W.cell? ⟨R6, 2, none⟩ = some (.int .i64 x.c.n.i) ∧ W.cell? ⟨R6, 3, none⟩ = some (.int .i64 x.c.n.f) ∧ W.cell? ⟨R6, 4, none⟩ = some (.int .i64 x.c.n.c) ∧ W.cell? ⟨R6, 5, none⟩ = some (.int .i64 x.c.n.s) ∧ W.cell? ⟨R6, 6, none⟩ = some (.int .i64 x.c.n.y) ∧ W.cell? ⟨R6, 7, none⟩ = some (.bool x.c.n.a) ∧ W.cell? ⟨R6, 8, none⟩ = some (.int .i64 x.c.ad) ∧ W.cell? ⟨R6, 9, none⟩ = some (.int .i64 x.c.st) ∧ W.cell? ⟨R6, 10, none⟩ = some (.int .i64 x.c.lf) ∧ W.cell? ⟨R6, 11, none⟩ = some (.slice y5a N1 N1) ∧ W.cell? ⟨R6, 12, none⟩ = some (.slice y5b N2 N2) ∧ W.cell? ⟨R6, 13, none⟩ = some (.slice y5c N3 N3) ∧ W.cell? ⟨R6, 14, none⟩ = some (.slice y5d N4 N4) ∧ W.cell? ⟨R6, 15, none⟩ = some (.slice y5e N5 N5) ∧ W.cell? ⟨R6, 16, none⟩ = some (.int .i64 x.s)) ∧ (W.cell? ⟨R1, 0, none⟩ = some (.int .i64 x.c.n.u) ∧ W.cell? ⟨R1, 1, none⟩ = some (.int .i64 x.c.n.m) ∧ W.cell? ⟨R1, 2, none⟩ = some (.int .i64 x.c.n.i) ∧ W.cell? ⟨R1, 3, none⟩ = some (.int .i64 x.c.n.f) ∧ W.cell? ⟨R1, 4, none⟩ = some (.int .i64 x.c.n.c) ∧ W.cell? ⟨R1, 5, none⟩ = some (.int .i64 x.c.n.s) ∧ W.cell? ⟨R1, 6, none⟩ = some (.int .i64 x.c.n.y) ∧ W.cell? ⟨R1, 7, none⟩ = some (.bool x.c.n.a) ∧ W.cell? ⟨R1, 8, none⟩ = some (.int .i64 x.c.ad) ∧ W.cell? ⟨R1, 9, none⟩ = some (.int .i64 x.c.st) ∧ W.cell? ⟨R1, 10, none⟩ = some (.int .i64 x.c.lf) ∧ W.cell? ⟨R1, 11, none⟩ = some (.slice a1 N1 c1) ∧ W.cell? ⟨R1, 12, none⟩ = some (.slice a2 N2 c2) ∧ W.cell? ⟨R1, 13, none⟩ = some (.slice a3 N3 c3) ∧ W.cell? ⟨R1, 14, none⟩ = some (.slice a4 N4 c4) ∧ W.cell? ⟨R1, 15, none⟩ = some (.slice a5 N5 c5) ∧ W.cell? ⟨R1, 16, none⟩ = some (.int .i64 x.s))) ∧ Below w8.heap.size w8 W)
    (first | with_reducible exact HK.out _ (Below.refl _ _).drew | with_reducible exact HK.out _ bz1 | with_reducible exact HK.out _ bz2)
    (first
      | (go_at_call 29; refine (HT _ (HI.out.kept HL8.out.below.drew)).out.mono ?_; rintro e wz1 ⟨za, zb, zc, zd, ze, rfl, hnz, hz1⟩; have bz1 : Below w8.heap.size w8 wz1 := (Below.refl _ _).drew.trans (hz1.mono (Nat.le_refl _)); have HZ := Lib.hid hnz; clear hnz)
      | (go_at_call 31; refine (HE _ _ _ _ _ _ _ _ _ _ _ ((HL8.out.at (.head _)).ins.kept bz1) HZ.out.ins).out.mono ?_; rintro e wz2 ⟨rfl, hz2⟩; have bz2 : Below w8.heap.size w8 wz2 := bz1.trans (hz2.mono bz1.size)))
  have HL9 := Lib.hid (show Lg w wz2 [(R6, #[.int .i64 x.c.n.u, .int .i64 x.c.n.m, .int .i64 x.c.n.i, .int .i64 x.c.n.f, .int .i64 x.c.n.c, .int .i64 x.c.n.s, .int .i64 x.c.n.y, .bool x.c.n.a, .int .i64 x.c.ad, .int .i64 x.c.st, .int .i64 x.c.lf, .slice y5a N1 N1, .slice y5b N2 N2, .slice y5c N3 N3, .slice y5d N4 N4, .slice y5e N5 N5, .int .i64 x.s], 66), (R1, #[.int .i64 x.c.n.u, .int .i64 x.c.n.m, .int .i64 x.c.n.i, .int .i64 x.c.n.f, .int .i64 x.c.n.c, .int .i64 x.c.n.s, .int .i64 x.c.n.y, .bool x.c.n.a, .int .i64 x.c.ad, .int .i64 x.c.st, .int .i64 x.c.lf, .slice a1 N1 c1, .slice a2 N2 c2, .slice a3 N3 c3, .slice a4 N4 c4, .slice a5 N5 c5, .int .i64 x.s], 56)] [(L5, H5, fun W => NdNew L5 H5 W y5a y5b y5c y5d y5e x), (L3, H3, fun W => NdNew L3 H3 W y3a y3b y3c y3d y3e x)] from HL8.out.kept bz2)
  go_wp2_with fail
  go_ret
  exact ⟨rfl, HL9.out.below⟩

set_option maxRecDepth 100000 in
theorem lifted (os : Os) (started : os.Started) (H : Type) (enc : TypeId × Value → H) :
    ReturnsInHanded {} Try.checked os 6 .any (Rows.fnExactNodeRightSpec.pre6 enc Try.prog Try.f6 Rows.fnExactNodeRightRow.domain false) (Rows.fnExactNodeRightSpec.post enc Try.prog Try.f6 false true false false) := by
  refine returnsInHanded_of_change (C := Try.checked) own started (by kernel_rfl) Try.func6
    (ChangeSpec.witness6 (enc := enc) (C := Try.checked) false ⟨#[], #[.agg #[.int .i64 0, .int .i64 0, .int .i64 0, .int .i64 0, .int .i64 0, .int .i64 0, .int .i64 0, .bool false, .int .i64 0, .int .i64 0, .int .i64 0, .slice none 0 0, .slice none 0 0, .slice none 0 0, .slice none 0 0, .slice none 0 0, .int .i64 0]], []⟩ 8 (by kernel_rfl) (by kernel_rfl) (by kernel_rfl) (by kernel_rfl)) ?_
  intro W base args ds gs before hval0 hW hcnd _
  have hval : ∀ (j : Nat) t v, Try.f6.params[j]? = some t → args[j]? = some v → Value.okWide Try.prog W .any base t v := hval0
  have hW' := hW
  obtain ⟨p, q, hA0, hV, rfl, hfz, hnd⟩ := hW
  have hlt := DataW.TrodAll.lt hA0
  have hA : DataW.TrodAll enc Try.prog W 0 (fun _ => true) true Try.f6.params.toList args.toList ds p := hA0
  rw [Try.params6] at hA hval
  obtain ⟨v0, vs0, d0, ds0, p0, q0, hargs, rfl, rfl, h0, r0⟩ := trodAll_cons hA
  obtain ⟨rfl, rfl, rfl⟩ := trodAll_nil r0
  obtain rfl : args = #[v0] := by cases args; simp_all
  obtain ⟨rfl, rfl⟩ := trodVars_none hV
  have l0 : ∀ x ∈ p0, x.block < W.heap.size := fun x hx => hlt x (by simp [hx])
  have k0 := open_Nd (hval 0 56 v0 rfl rfl) h0
  clear hA0 hval0
  simp only [List.append_nil] at hW'
  refine (walk W v0 k0).mono fun e W' ⟨he, hg⟩ => ?_
  subst he
  exact ⟨_, rfl, _, _, _, [], _, [], hW', (trodAll_cons_mk (shut_bool Try.underlying4 _) trodAll_mk0), (trodAll_cons_mk (Below.trod (by kernel_rfl) (by kernel_rfl) (of_decide_eq_true (by kernel_rfl)) h0 hg l0) trodAll_mk0), rfl, hg.frame _, fun h => by cases h⟩

theorem over : Rows.fnExactNodeRightRow.holds Try.pinned (OpenSpec.ofChange Rows.fnExactNodeRightSpec) :=
  OpenClaim.holds_of_wide 6 Try.f6 rfl rfl rfl rfl rfl rfl rfl ⟨rfl, rfl, rfl, rfl, rfl⟩ rfl rfl rfl rfl rfl (by kernel_rfl) Try.func6 (by kernel_rfl)
    (of_decide_eq_true (by kernel_rfl)) (by unfold Func.isWrapper; first | (rw [if_pos (by decide +kernel)]; kernel_rfl) | (rw [if_neg (by decide +kernel)]; exact ⟨rfl, rfl⟩))
    (fun os started H enc _ => lifted os started H enc)

/-- ████ THE STATEMENT ████ -/
theorem proved : Rows.FnExactNodeRightSaid :=
  over
#print axioms proved
end Go.Proofs.Ytpolpkheaibonaa.fnExactNodeRight
