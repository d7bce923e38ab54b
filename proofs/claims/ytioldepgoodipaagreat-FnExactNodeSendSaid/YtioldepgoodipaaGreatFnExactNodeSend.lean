/- For every Node, number of a group and list of Values the program's NodeSend answers as the model's NodeSend does, in memory of its own, and the Node and the Values stay as they were. -/
import Derived.Test.YtioldepgoodipaaGreatRows
import Derived.Test.YtioldepgoodipaaGreatNsG
import Derived.Test.YtioldepgoodipaaGreatNsH
import Derived.WalkKit
import Derived.ProofKit
import Derived.OpenShut
import Derived.ShutString
import Derived.ChangeOld
import Derived.Below
import Derived.Carry
namespace Go.Proofs.YtioldepgoodipaaGreat.fnExactNodeSend
open Go.ChangeShapes Go.WideShapes Go.ChangeAt Go.RowKit
open Go.ChangeMaps (open_string shut_string)
set_option linter.unusedVariables false

abbrev qL0 (v0 : Nd) (p1 : Option Addr) (p2 : Nat) (p3 : Nat) (p4 : Option Addr) (p5 : Nat) (p6 : Nat) (p7 : Option Addr) (p8 : Nat) (p9 : Nat) (p10 : Option Addr) (p11 : Nat) (p12 : Nat) (p13 : Option Addr) (p14 : Nat) (p15 : Nat) (p16 : Int) : Array Value := #[.int .i64 v0.c.n.u, .int .i64 v0.c.n.m, .int .i64 v0.c.n.i, .int .i64 v0.c.n.f, .int .i64 v0.c.n.c, .int .i64 v0.c.n.s, .int .i64 v0.c.n.y, .bool v0.c.n.a, .int .i64 v0.c.ad, .int .i64 v0.c.st, .int .i64 v0.c.lf, .slice p1 p2 p3, .slice p4 p5 p6, .slice p7 p8 p9, .slice p10 p11 p12, .slice p13 p14 p15, .int .i64 p16]
abbrev qL1 : Array Value := #[.int .i64 0, .int .i64 0, .int .i64 0, .int .i64 0, .int .i64 0, .int .i64 0, .int .i64 0, .bool false, .int .i64 0, .int .i64 0, .int .i64 0, .slice none 0 0, .slice none 0 0, .slice none 0 0, .slice none 0 0, .slice none 0 0, .int .i64 0, .int .i64 0]
abbrev qL2 (v0 : Nd) (p1 : Option Addr) (p2 : Nat) (p3 : Option Addr) (p4 : Nat) (p5 : Option Addr) (p6 : Nat) (p7 : Option Addr) (p8 : Nat) (p9 : Option Addr) (p10 : Nat) (p11 : Int) (p12 : Int) : Array Value := #[.int .i64 v0.c.n.u, .int .i64 v0.c.n.m, .int .i64 v0.c.n.i, .int .i64 v0.c.n.f, .int .i64 v0.c.n.c, .int .i64 v0.c.n.s, .int .i64 v0.c.n.y, .bool v0.c.n.a, .int .i64 v0.c.ad, .int .i64 v0.c.st, .int .i64 v0.c.lf, .slice p1 v0.c.tk.length p2, .slice p3 v0.q.length p4, .slice p5 v0.t.length p6, .slice p7 v0.d.length p8, .slice p9 v0.g.length p10, .int .i64 p11, .int .i64 p12]
abbrev qL3 : Array Value := #[.int .i64 0, .int .i64 0, .int .i64 0, .int .i64 0, .int .i64 0, .int .i64 0, .int .i64 0, .bool false, .int .i64 0, .int .i64 0, .int .i64 0, .slice none 0 0, .slice none 0 0, .slice none 0 0, .slice none 0 0, .slice none 0 0, .int .i64 0]
theorem qLm5 {α : Type _} {a0 a1 a2 a3 a4 a5 : α} {l : List α} : a5 ∈ a0 :: a1 :: a2 :: a3 :: a4 :: a5 :: l := (.tail _ (.tail _ (.tail _ (.tail _ (.tail _ (.head _))))))
theorem qLm4 {α : Type _} {a0 a1 a2 a3 a4 : α} {l : List α} : a4 ∈ a0 :: a1 :: a2 :: a3 :: a4 :: l := (.tail _ (.tail _ (.tail _ (.tail _ (.head _)))))
theorem qLm3 {α : Type _} {a0 a1 a2 a3 : α} {l : List α} : a3 ∈ a0 :: a1 :: a2 :: a3 :: l := (.tail _ (.tail _ (.tail _ (.head _))))
theorem qLm2 {α : Type _} {a0 a1 a2 : α} {l : List α} : a2 ∈ a0 :: a1 :: a2 :: l := (.tail _ (.tail _ (.head _)))
theorem qLm1 {α : Type _} {a0 a1 : α} {l : List α} : a1 ∈ a0 :: a1 :: l := (.tail _ (.head _))
theorem qLf {α : Type _} {p : α → Prop} {a : α} {l : List α} (h : p a ∧ ∀ x ∈ l, p x) : ∀ x ∈ a :: l, p x := List.forall_mem_cons.2 h
theorem own : ownKnob Tryz.prog.godebug = none := by kernel_rfl

def TEq (V0 V1 : Value) (x : Nd) (VZ : Option Addr → Option Addr → Option Addr → Option Addr → Option Addr → Value) : Nat → World → Value → Prop
 | 0, _, v => v = V0
 | 1, _, v => v = V1
 | 2, W, v => ∃ za zb zc zd ze, v = VZ za zb zc zd ze ∧ NdIn W za zb zc zd ze x
 | 3, _, v => v = .bool true
 | 4, _, v => v = .bool false
 | _ + 5, _, _ => True
theorem TEq.kept {V0 V1 : Value} {x : Nd} {VZ : Option Addr → Option Addr → Option Addr → Option Addr → Option Addr → Value} : ∀ j w w' v, Below w.heap.size w w' → TEq V0 V1 x VZ j w v → TEq V0 V1 x VZ j w' v
 | 0, _, _, _, _, h | 1, _, _, _, _, h | 3, _, _, _, _, h | 4, _, _, _, _, h => h
 | 2, _, _, _, hR, ⟨za, zb, zc, zd, ze, h1, h2⟩ => ⟨za, zb, zc, zd, ze, h1, h2.kept hR⟩
 | _ + 5, _, _, _, _, h => h
theorem szValueS_left (a : Option Addr) (cap n : Nat) (m : Int) (w : World) (hn : n ≤ maxLen) (h0 : 0 ≤ m) (h1 : m ≤ 1048576) :
  Calls Tryz.prog 7 #[.slice a n cap, .int .i64 m] w fun e w' => ∃ m2 : Int, e = .returned (.int .i64 m2) ∧ (0 ≤ m2 → n ≤ 1048576) ∧ Below w.heap.size w w' := by
 unfold maxLen at hn
 have hw : IntKind.i64.wrap (m - (n : Int)) = m - n := IntWalk.i64_in _ (by omega)
 by_cases hbig : m < n
 ·have hd : decide (m - (n : Int) < 0) = true := decide_eq_true (by omega)
  go_enter Tryz.func7, Tryz.ntmps7
  go_wp2_with fail
  go_ret
  exact ⟨-1, rfl, fun q => absurd q (by omega), Below.refl _ _⟩
 ·have hd : decide (m - (n : Int) < 0) = false := decide_eq_false (by omega)
  go_enter Tryz.func7, Tryz.ntmps7
  go_wp2_with fail
  go_ret
  exact ⟨_, rfl, fun _ => by omega, Below.refl _ _⟩
set_option maxRecDepth 100000 in
set_option maxHeartbeats 100000000 in
theorem walk (w : World) (v0 : Value) (k0 : IsNd w v0) (v1 : Value) (k1 : IsI64 v1) (v2 : Value) (k2 : IsVls w v2) :
  Calls Tryz.prog 3 #[v0, v1, v2] w fun e w' => e = .returned (.bool true) ∧ Below w.heap.size w w' := by
 obtain ⟨p, rfl, -⟩ := k1
 obtain ⟨b, bc, l, rfl, hvin, -, hvl⟩ := k2
 have HVI := Lib.hid hvin
 clear hvin
 obtain ⟨x, a1, a2, a3, a4, a5, c1, c2, c3, c4, c5, rfl, hin, ⟨-, hok1, hok2, -, hok3⟩, hlen⟩ := k0
 have hok : NdOk x := ⟨hok1, hok2, fun i hi => (hok3 _ (List.mem_of_getElem? (gtAt_some hi))).2.2⟩
 have HS := fun W h => Lib.hid (szNode_any x a1 a2 a3 a4 a5 c1 c2 c3 c4 c5 W h ⟨hok1, hok2, hok3⟩ hlen)
 have HI := Lib.hid hin
 clear hin hok1 hok2 hok3
 have HX := fun (hs : NdSmall x) => Lib.hid (And.intro (fun W h => toNode_new x a1 a2 a3 a4 a5 c1 c2 c3 c4 c5 W h hs) (And.intro (fun W y1 y2 y3 y4 y5 z1 z2 z3 z4 z5 h h' => eqNode_same x y1 y2 y3 y4 y5 z1 z2 z3 z4 z5 x.c.tk.length x.q.length x.t.length x.d.length x.g.length x.c.tk.length x.q.length x.t.length x.d.length x.g.length W h h' hs) (And.intro (fun W y1 y2 y3 y4 y5 h => fun b (hl : RsIn vlL 2 W b l) => specNodeSend_any x y1 y2 y3 y4 y5 x.c.tk.length x.q.length x.t.length x.d.length x.g.length p b l.length l W h hok hs hl hvl) (And.intro (fun W y1 y2 y3 y4 y5 h => fun b (hl : RsIn vlL 2 W b l) => implNodeSend_any x y1 y2 y3 y4 y5 x.c.tk.length x.q.length x.t.length x.d.length x.g.length p b l.length l W h hok hs (Nat.le_refl _) hl hvl) (fun lo hi W y1 y2 y3 y4 y5 k hh => markNode_1 (lo := lo) (hi := hi) x y1 y2 y3 y4 y5 x.c.tk.length x.q.length x.t.length x.d.length x.g.length W k hh hs)))))
 clear hok hlen
 unfold ndV at *
 generalize eN1 : x.c.tk.length = N1 at *
 generalize eN2 : x.q.length = N2 at *
 generalize eN3 : x.t.length = N3 at *
 generalize eN4 : x.d.length = N4 at *
 generalize eN5 : x.g.length = N5 at *
 have HEN := Lib.hid (And.intro eN1 (And.intro eN2 (And.intro eN3 (And.intro eN4 eN5))))
 clear eN1 eN2 eN3 eN4 eN5
 go_enter Tryz.func3, Tryz.ntmps3
 go_wp2_with (first
  | (refine wpList_box_h rfl 34 (.tmp 0) rfl #[.int .i64 x.c.n.u, .int .i64 x.c.n.m, .int .i64 x.c.n.i, .int .i64 x.c.n.f, .int .i64 x.c.n.c, .int .i64 x.c.n.s, .int .i64 x.c.n.y, .bool x.c.n.a, .int .i64 x.c.ad, .int .i64 x.c.st, .int .i64 x.c.lf, .slice a1 N1 c1, .slice a2 N2 c2, .slice a3 N3 c3, .slice a4 N4 c4, .slice a5 N5 c5, .int .i64 x.s] rfl ?_; intro w1 R1 e1 g1 b1; have HL1 := Lib.hid (show Lg w w1 [(R1, (qL0 x a1 N1 c1 a2 N2 c2 a3 N3 c3 a4 N4 c4 a5 N5 c5 x.s), 34)] [] from (Lg.first w).box e1 g1 b1); clear g1 b1 e1)
  | (refine wpList_load_at rfl 34 (.tmp 3) rfl (R1) 0 rfl 34 (qL0 x a1 N1 c1 a2 N2 c2 a3 N3 c3 a4 N4 c4 a5 N5 c5 x.s) (0, 0) (HL1.out.get (.head _)) [.int .i64 x.c.n.u, .int .i64 x.c.n.m, .int .i64 x.c.n.i, .int .i64 x.c.n.f, .int .i64 x.c.n.c, .int .i64 x.c.n.s, .int .i64 x.c.n.y, .bool x.c.n.a, .int .i64 x.c.ad, .int .i64 x.c.st, .int .i64 x.c.lf, .slice a1 N1 c1, .slice a2 N2 c2, .slice a3 N3 c3, .slice a4 N4 c4, .slice a5 N5 c5, .int .i64 x.s] rfl _ Tryz.underlying34 rfl (by kernel_rfl) ?_))
 refine ((HS _ (HI.out.kept HL1.out.below)).out).mono ?_
 rintro e w2 ⟨m, rfl, hm0, hm1, hm2, h⟩
 have HL2 := Lib.hid (show Lg w w2 [(R1, (qL0 x a1 N1 c1 a2 N2 c2 a3 N3 c3 a4 N4 c4 a5 N5 c5 x.s), 34)] [] from HL1.out.kept h)
 clear h
 by_cases hneg : m < 0
 ·have hd : decide (m < 0) = true := decide_eq_true hneg
  go_wp2_with fail
  go_ret
  exact ⟨rfl, HL2.out.below⟩
 have hd : decide (m < 0) = false := decide_eq_false hneg
 have hs := hm2 (by omega)
 have HXX := (HX hs).out
 clear hm2 hneg HS HX
 go_wp2_with fail
 refine ((szValueS_left b bc l.length m _ hvl (by have := of_decide_eq_false hd; omega) hm1)).mono ?_
 rintro e w3 ⟨m2, rfl, hm3, h⟩
 have HL3 := Lib.hid (show Lg w w3 [(R1, (qL0 x a1 N1 c1 a2 N2 c2 a3 N3 c3 a4 N4 c4 a5 N5 c5 x.s), 34)] [] from HL2.out.kept h)
 clear h
 by_cases hneg2 : m2 < 0
 ·have hd2 : decide (m2 < 0) = true := decide_eq_true hneg2
  go_wp2_with fail
  go_ret
  exact ⟨rfl, HL3.out.below⟩
 have hd2 : decide (m2 < 0) = false := decide_eq_false hneg2
 have hvl2 : l.length ≤ 1048576 := hm3 (by omega)
 have hE0 : 0 < endNd x := by unfold endNd; omega
 have hE1 : endNd x + 2 * l.length ≤ 30000000 := by
  have hs' := hs
  unfold NdSmall at hs'
  unfold endNd
  omega
 clear hm3 hneg2
 have HT := fun W h => Lib.hid (HXX.1 W h)
 have HEN := fun W y1 y2 y3 y4 y5 z1 z2 z3 z4 z5 h h' => Lib.hid (HXX.2.1 W y1 y2 y3 y4 y5 z1 z2 z3 z4 z5 h h')
 have HP := fun W y1 y2 y3 y4 y5 h b hl => Lib.hid (HXX.2.2.1 W y1 y2 y3 y4 y5 h b hl)
 have HQ := fun W y1 y2 y3 y4 y5 h b hl => Lib.hid (HXX.2.2.2.1 W y1 y2 y3 y4 y5 h b hl)
 have HMN := fun lo hi W y1 y2 y3 y4 y5 k hh => Lib.hid (HXX.2.2.2.2 lo hi W y1 y2 y3 y4 y5 k hh)
 have hXs : NdSmall (sndO x p l).1 := sndO_fit x p l
 clear HXX hs
 generalize (sndO x p l).1 = X at *
 generalize (sndO x p l).2 = cd at *
 have HE := fun W a1 a2 a3 a4 a5 b1 b2 b3 b4 b5 c1 c2 c3 c4 c5 d1 d2 d3 d4 d5 h h' => Lib.hid (eqNodeOut_same X cd a1 a2 a3 a4 a5 b1 b2 b3 b4 b5 c1 c2 c3 c4 c5 d1 d2 d3 d4 d5 W h h' hXs)
 have HE := fun c1 c2 c3 c4 c5 d1 d2 d3 d4 d5 a1 a2 a3 a4 a5 b1 b2 b3 b4 b5 W h h' => HE W a1 a2 a3 a4 a5 b1 b2 b3 b4 b5 c1 c2 c3 c4 c5 d1 d2 d3 d4 d5 h h'
 have HM := fun lo hi a1 a2 a3 a4 a5 c1 c2 c3 c4 c5 W k hh => Lib.hid (markNodeOut_1 (lo := lo) (hi := hi) X cd a1 a2 a3 a4 a5 c1 c2 c3 c4 c5 W k hh hXs)
 have HH := fun lo hi a1 a2 a3 a4 a5 c1 c2 c3 c4 c5 W k => Lib.hid (heldNodeOut_1 (lo := lo) (hi := hi) X cd a1 a2 a3 a4 a5 c1 c2 c3 c4 c5 W k hXs)
 have g2 : decide (((endNd X : Nat) : Int) < 0) = false := decide_eq_false (by omega)
 have g3 : (((endNd X : Nat) : Int) != ((endNd X : Nat) : Int)) = false := by simp
 clear hXs
 have g1 : decide (((endNd x + 2 * l.length : Nat) : Int) < 0) = false := decide_eq_false (by omega)
 unfold NdOutNew at HP HQ
 unfold ndOutV at *
 go_wp2_with (first
  | (refine wpList_load_at rfl 34 (.tmp 3) rfl (R1) 0 rfl 34 (qL0 x a1 N1 c1 a2 N2 c2 a3 N3 c3 a4 N4 c4 a5 N5 c5 x.s) (0, 0) (HL3.out.get (.head _)) [.int .i64 x.c.n.u, .int .i64 x.c.n.m, .int .i64 x.c.n.i, .int .i64 x.c.n.f, .int .i64 x.c.n.c, .int .i64 x.c.n.s, .int .i64 x.c.n.y, .bool x.c.n.a, .int .i64 x.c.ad, .int .i64 x.c.st, .int .i64 x.c.lf, .slice a1 N1 c1, .slice a2 N2 c2, .slice a3 N3 c3, .slice a4 N4 c4, .slice a5 N5 c5, .int .i64 x.s] rfl _ Tryz.underlying34 rfl (by kernel_rfl) ?_))
 refine ((HT _ (HI.out.kept HL3.out.below)).out).mono ?_
 rintro e w4 ⟨y4a, y4b, y4c, y4d, y4e, rfl, hn, h⟩
 obtain ⟨L4, e4⟩ : ∃ x, w3.heap.size = x := ⟨_, rfl⟩
 obtain ⟨H4, f4⟩ : ∃ x, w4.heap.size = x := ⟨_, rfl⟩
 have qL4_R1 : R1 < L4 := Nat.lt_of_lt_of_eq (HL3.out.lt (.head _)) e4
 have qH4_L4 : L4 ≤ H4 := (by rw [← e4, ← f4]; exact h.size)
 have HL4 := Lib.hid (show Lg w w4 [(R1, (qL0 x a1 N1 c1 a2 N2 c2 a3 N3 c3 a4 N4 c4 a5 N5 c5 x.s), 34)] [(L4, H4, fun W => NdNew L4 H4 W y4a y4b y4c y4d y4e x)] from HL3.out.made e4 f4 h (by rw [← e4, ← f4]; exact hn.solid))
 clear h hn e4 f4
 go_wp2_with fail
 refine ((toValueS_new b bc l _ (HVI.out.kept HL4.out.below) hvl2)).mono ?_
 rintro e w5 ⟨v5_, rfl, hn, h⟩
 obtain ⟨L5, e5⟩ : ∃ x, w4.heap.size = x := ⟨_, rfl⟩
 obtain ⟨H5, f5⟩ : ∃ x, w5.heap.size = x := ⟨_, rfl⟩
 have qL5_R1 : R1 < L5 := Nat.lt_of_lt_of_eq (HL4.out.lt (.head _)) e5
 have qL5_H4 : H4 ≤ L5 := Nat.le_trans (HL4.out.hi (.head _)).2 (Nat.le_of_eq e5)
 have qH5_L5 : L5 ≤ H5 := (by rw [← e5, ← f5]; exact h.size)
 have HL5 := Lib.hid (show Lg w w5 [(R1, (qL0 x a1 N1 c1 a2 N2 c2 a3 N3 c3 a4 N4 c4 a5 N5 c5 x.s), 34)] [(L5, H5, (fun W => RsNew vlL 2 99 L5 H5 W v5_ l)), (L4, H4, fun W => NdNew L4 H4 W y4a y4b y4c y4d y4e x)] from HL4.out.made e5 f5 h (by rw [← e5, ← f5]; exact hn.solid))
 clear h hn e5 f5
 go_wp2_with fail
 refine ((HP _ _ _ _ _ _ (HL5.out.at qLm1).ins _ (HL5.out.at (.head _)).ins).out).mono ?_
 rintro e w6 ⟨z6a, z6b, z6c, z6d, z6e, f6a, f6b, f6c, f6d, f6e, rfl, hn, h⟩
 obtain ⟨L6, e6⟩ : ∃ x, w5.heap.size = x := ⟨_, rfl⟩
 obtain ⟨H6, f6⟩ : ∃ x, w6.heap.size = x := ⟨_, rfl⟩
 have qL6_R1 : R1 < L6 := Nat.lt_of_lt_of_eq (HL5.out.lt (.head _)) e6
 have qL6_H5 : H5 ≤ L6 := Nat.le_trans (HL5.out.hi (.head _)).2 (Nat.le_of_eq e6)
 have qL6_H4 : H4 ≤ L6 := Nat.le_trans (HL5.out.hi qLm1).2 (Nat.le_of_eq e6)
 have qH6_L6 : L6 ≤ H6 := (by rw [← e6, ← f6]; exact h.size)
 have HL6 := Lib.hid (show Lg w w6 [(R1, (qL0 x a1 N1 c1 a2 N2 c2 a3 N3 c3 a4 N4 c4 a5 N5 c5 x.s), 34)] [(L6, H6, (fun W => NdNew L6 H6 W z6a z6b z6c z6d z6e X)), (L5, H5, (fun W => RsNew vlL 2 99 L5 H5 W v5_ l)), (L4, H4, fun W => NdNew L4 H4 W y4a y4b y4c y4d y4e x)] from HL5.out.made e6 f6 h (by rw [← e6, ← f6]; exact hn.solid))
 clear h hn e6 f6
 go_wp2_with (first
  | (refine wpList_alloc_h rfl 50 rfl (.agg #[.int .i64 0, .int .i64 0, .int .i64 0, .int .i64 0, .int .i64 0, .int .i64 0, .int .i64 0, .bool false, .int .i64 0, .int .i64 0, .int .i64 0, .slice none 0 0, .slice none 0 0, .slice none 0 0, .slice none 0 0, .slice none 0 0, .int .i64 0, .int .i64 0]) (by kernel_rfl) #[.int .i64 0, .int .i64 0, .int .i64 0, .int .i64 0, .int .i64 0, .int .i64 0, .int .i64 0, .bool false, .int .i64 0, .int .i64 0, .int .i64 0, .slice none 0 0, .slice none 0 0, .slice none 0 0, .slice none 0 0, .slice none 0 0, .int .i64 0, .int .i64 0] rfl ?_; intro w7 R7 e7 g7 b7; have qR7_R1 : R1 < R7 := Nat.lt_of_lt_of_eq (HL6.out.lt (.head _)) e7; have qR7_H6 : H6 ≤ R7 := Nat.le_trans (HL6.out.hi (.head _)).2 (Nat.le_of_eq e7); have qR7_H5 : H5 ≤ R7 := Nat.le_trans (HL6.out.hi qLm1).2 (Nat.le_of_eq e7); have qR7_H4 : H4 ≤ R7 := Nat.le_trans (HL6.out.hi qLm2).2 (Nat.le_of_eq e7); have HL7 := Lib.hid (show Lg w w7 [(R7, (qL1), 50), (R1, (qL0 x a1 N1 c1 a2 N2 c2 a3 N3 c3 a4 N4 c4 a5 N5 c5 x.s), 34)] [(L6, H6, (fun W => NdNew L6 H6 W z6a z6b z6c z6d z6e X)), (L5, H5, (fun W => RsNew vlL 2 99 L5 H5 W v5_ l)), (L4, H4, fun W => NdNew L4 H4 W y4a y4b y4c y4d y4e x)] from HL6.out.box e7 g7 b7); clear g7 b7 e7)
  | (refine wpList_put_at rfl 50 (.tmp 8) (.tmp 31) rfl rfl (R7) 0 rfl _ rfl #[.int .i64 X.c.n.u, .int .i64 X.c.n.m, .int .i64 X.c.n.i, .int .i64 X.c.n.f, .int .i64 X.c.n.c, .int .i64 X.c.n.s, .int .i64 X.c.n.y, .bool X.c.n.a, .int .i64 X.c.ad, .int .i64 X.c.st, .int .i64 X.c.lf, .slice z6a X.c.tk.length f6a, .slice z6b X.q.length f6b, .slice z6c X.t.length f6c, .slice z6d X.d.length f6d, .slice z6e X.g.length f6e, .int .i64 X.s, .int .i64 cd] rfl 50 (qL1) (qL2 X z6a f6a z6b f6b z6c f6c z6d f6d z6e f6e X.s cd) (HL7.out.get (.head _)) (by kernel_rfl) (by kernel_rfl) (by kernel_rfl) (by kernel_rfl) ?_; intro w8 g8 o8; have HL8 := Lib.hid (show Lg w w8 [(R7, (qL2 X z6a f6a z6b f6b z6c f6c z6d f6d z6e f6e X.s cd), 50), (R1, (qL0 x a1 N1 c1 a2 N2 c2 a3 N3 c3 a4 N4 c4 a5 N5 c5 x.s), 34)] [(L6, H6, (fun W => NdNew L6 H6 W z6a z6b z6c z6d z6e X)), (L5, H5, (fun W => RsNew vlL 2 99 L5 H5 W v5_ l)), (L4, H4, fun W => NdNew L4 H4 W y4a y4b y4c y4d y4e x)] from HL7.out.put 0 rfl g8 o8 (qLf ⟨Nat.ne_of_lt qR7_R1, (fun _ h => nomatch h)⟩) (qLf ⟨.inl qR7_H6, (qLf ⟨.inl qR7_H5, (qLf ⟨.inl qR7_H4, (fun _ h => nomatch h)⟩)⟩)⟩) rfl); clear g8 o8)
  | (refine wpList_load_at rfl 34 (.tmp 3) rfl (R1) 0 rfl 34 (qL0 x a1 N1 c1 a2 N2 c2 a3 N3 c3 a4 N4 c4 a5 N5 c5 x.s) (0, 0) (HL8.out.get qLm1) [.int .i64 x.c.n.u, .int .i64 x.c.n.m, .int .i64 x.c.n.i, .int .i64 x.c.n.f, .int .i64 x.c.n.c, .int .i64 x.c.n.s, .int .i64 x.c.n.y, .bool x.c.n.a, .int .i64 x.c.ad, .int .i64 x.c.st, .int .i64 x.c.lf, .slice a1 N1 c1, .slice a2 N2 c2, .slice a3 N3 c3, .slice a4 N4 c4, .slice a5 N5 c5, .int .i64 x.s] rfl _ Tryz.underlying34 rfl (by kernel_rfl) ?_))
 refine ((HT _ (HI.out.kept HL8.out.below)).out).mono ?_
 rintro e w9 ⟨y9a, y9b, y9c, y9d, y9e, rfl, hn, h⟩
 obtain ⟨L9, e9⟩ : ∃ x, w8.heap.size = x := ⟨_, rfl⟩
 obtain ⟨H9, f9⟩ : ∃ x, w9.heap.size = x := ⟨_, rfl⟩
 have qL9_R7 : R7 < L9 := Nat.lt_of_lt_of_eq (HL8.out.lt (.head _)) e9
 have qL9_R1 : R1 < L9 := Nat.lt_of_lt_of_eq (HL8.out.lt qLm1) e9
 have qL9_H6 : H6 ≤ L9 := Nat.le_trans (HL8.out.hi (.head _)).2 (Nat.le_of_eq e9)
 have qL9_H5 : H5 ≤ L9 := Nat.le_trans (HL8.out.hi qLm1).2 (Nat.le_of_eq e9)
 have qL9_H4 : H4 ≤ L9 := Nat.le_trans (HL8.out.hi qLm2).2 (Nat.le_of_eq e9)
 have qH9_L9 : L9 ≤ H9 := (by rw [← e9, ← f9]; exact h.size)
 have HL9 := Lib.hid (show Lg w w9 [(R7, (qL2 X z6a f6a z6b f6b z6c f6c z6d f6d z6e f6e X.s cd), 50), (R1, (qL0 x a1 N1 c1 a2 N2 c2 a3 N3 c3 a4 N4 c4 a5 N5 c5 x.s), 34)] [(L9, H9, fun W => NdNew L9 H9 W y9a y9b y9c y9d y9e x), (L6, H6, (fun W => NdNew L6 H6 W z6a z6b z6c z6d z6e X)), (L5, H5, (fun W => RsNew vlL 2 99 L5 H5 W v5_ l)), (L4, H4, fun W => NdNew L4 H4 W y4a y4b y4c y4d y4e x)] from HL8.out.made e9 f9 h (by rw [← e9, ← f9]; exact hn.solid))
 clear h hn e9 f9
 go_wp2_with (first
  | (refine wpList_alloc_h rfl 48 rfl (.agg #[.int .i64 0, .int .i64 0, .int .i64 0, .int .i64 0, .int .i64 0, .int .i64 0, .int .i64 0, .bool false, .int .i64 0, .int .i64 0, .int .i64 0, .slice none 0 0, .slice none 0 0, .slice none 0 0, .slice none 0 0, .slice none 0 0, .int .i64 0]) (by kernel_rfl) #[.int .i64 0, .int .i64 0, .int .i64 0, .int .i64 0, .int .i64 0, .int .i64 0, .int .i64 0, .bool false, .int .i64 0, .int .i64 0, .int .i64 0, .slice none 0 0, .slice none 0 0, .slice none 0 0, .slice none 0 0, .slice none 0 0, .int .i64 0] rfl ?_; intro w10 R10 e10 g10 b10; have qR10_R7 : R7 < R10 := Nat.lt_of_lt_of_eq (HL9.out.lt (.head _)) e10; have qR10_R1 : R1 < R10 := Nat.lt_of_lt_of_eq (HL9.out.lt qLm1) e10; have qR10_H9 : H9 ≤ R10 := Nat.le_trans (HL9.out.hi (.head _)).2 (Nat.le_of_eq e10); have qR10_H6 : H6 ≤ R10 := Nat.le_trans (HL9.out.hi qLm1).2 (Nat.le_of_eq e10); have qR10_H5 : H5 ≤ R10 := Nat.le_trans (HL9.out.hi qLm2).2 (Nat.le_of_eq e10); have qR10_H4 : H4 ≤ R10 := Nat.le_trans (HL9.out.hi qLm3).2 (Nat.le_of_eq e10); have HL10 := Lib.hid (show Lg w w10 [(R10, (qL3), 48), (R7, (qL2 X z6a f6a z6b f6b z6c f6c z6d f6d z6e f6e X.s cd), 50), (R1, (qL0 x a1 N1 c1 a2 N2 c2 a3 N3 c3 a4 N4 c4 a5 N5 c5 x.s), 34)] [(L9, H9, fun W => NdNew L9 H9 W y9a y9b y9c y9d y9e x), (L6, H6, (fun W => NdNew L6 H6 W z6a z6b z6c z6d z6e X)), (L5, H5, (fun W => RsNew vlL 2 99 L5 H5 W v5_ l)), (L4, H4, fun W => NdNew L4 H4 W y4a y4b y4c y4d y4e x)] from HL9.out.box e10 g10 b10); clear g10 b10 e10)
  | (refine wpList_put_at rfl 48 (.tmp 9) (.tmp 33) rfl rfl (R10) 0 rfl _ rfl #[.int .i64 x.c.n.u, .int .i64 x.c.n.m, .int .i64 x.c.n.i, .int .i64 x.c.n.f, .int .i64 x.c.n.c, .int .i64 x.c.n.s, .int .i64 x.c.n.y, .bool x.c.n.a, .int .i64 x.c.ad, .int .i64 x.c.st, .int .i64 x.c.lf, .slice y9a N1 N1, .slice y9b N2 N2, .slice y9c N3 N3, .slice y9d N4 N4, .slice y9e N5 N5, .int .i64 x.s] rfl 48 (qL3) (qL0 x y9a N1 N1 y9b N2 N2 y9c N3 N3 y9d N4 N4 y9e N5 N5 x.s) (HL10.out.get (.head _)) (by kernel_rfl) (by kernel_rfl) (by kernel_rfl) (by kernel_rfl) ?_; intro w11 g11 o11; have HL11 := Lib.hid (show Lg w w11 [(R10, (qL0 x y9a N1 N1 y9b N2 N2 y9c N3 N3 y9d N4 N4 y9e N5 N5 x.s), 48), (R7, (qL2 X z6a f6a z6b f6b z6c f6c z6d f6d z6e f6e X.s cd), 50), (R1, (qL0 x a1 N1 c1 a2 N2 c2 a3 N3 c3 a4 N4 c4 a5 N5 c5 x.s), 34)] [(L9, H9, fun W => NdNew L9 H9 W y9a y9b y9c y9d y9e x), (L6, H6, (fun W => NdNew L6 H6 W z6a z6b z6c z6d z6e X)), (L5, H5, (fun W => RsNew vlL 2 99 L5 H5 W v5_ l)), (L4, H4, fun W => NdNew L4 H4 W y4a y4b y4c y4d y4e x)] from HL10.out.put 0 rfl g11 o11 (qLf ⟨Nat.ne_of_lt qR10_R7, (qLf ⟨Nat.ne_of_lt qR10_R1, (fun _ h => nomatch h)⟩)⟩) (qLf ⟨.inl qR10_H9, (qLf ⟨.inl qR10_H6, (qLf ⟨.inl qR10_H5, (qLf ⟨.inl qR10_H4, (fun _ h => nomatch h)⟩)⟩)⟩)⟩) rfl); clear g11 o11))
 refine ((toValueS_new b bc l _ (HVI.out.kept HL11.out.below) hvl2)).mono ?_
 rintro e w12 ⟨v12_, rfl, hn, h⟩
 obtain ⟨L12, e12⟩ : ∃ x, w11.heap.size = x := ⟨_, rfl⟩
 obtain ⟨H12, f12⟩ : ∃ x, w12.heap.size = x := ⟨_, rfl⟩
 have qL12_R10 : R10 < L12 := Nat.lt_of_lt_of_eq (HL11.out.lt (.head _)) e12
 have qL12_R7 : R7 < L12 := Nat.lt_of_lt_of_eq (HL11.out.lt qLm1) e12
 have qL12_R1 : R1 < L12 := Nat.lt_of_lt_of_eq (HL11.out.lt qLm2) e12
 have qL12_H9 : H9 ≤ L12 := Nat.le_trans (HL11.out.hi (.head _)).2 (Nat.le_of_eq e12)
 have qL12_H6 : H6 ≤ L12 := Nat.le_trans (HL11.out.hi qLm1).2 (Nat.le_of_eq e12)
 have qL12_H5 : H5 ≤ L12 := Nat.le_trans (HL11.out.hi qLm2).2 (Nat.le_of_eq e12)
 have qL12_H4 : H4 ≤ L12 := Nat.le_trans (HL11.out.hi qLm3).2 (Nat.le_of_eq e12)
 have qH12_L12 : L12 ≤ H12 := (by rw [← e12, ← f12]; exact h.size)
 have HL12 := Lib.hid (show Lg w w12 [(R10, (qL0 x y9a N1 N1 y9b N2 N2 y9c N3 N3 y9d N4 N4 y9e N5 N5 x.s), 48), (R7, (qL2 X z6a f6a z6b f6b z6c f6c z6d f6d z6e f6e X.s cd), 50), (R1, (qL0 x a1 N1 c1 a2 N2 c2 a3 N3 c3 a4 N4 c4 a5 N5 c5 x.s), 34)] [(L12, H12, (fun W => RsNew vlL 2 99 L12 H12 W v12_ l)), (L9, H9, fun W => NdNew L9 H9 W y9a y9b y9c y9d y9e x), (L6, H6, (fun W => NdNew L6 H6 W z6a z6b z6c z6d z6e X)), (L5, H5, (fun W => RsNew vlL 2 99 L5 H5 W v5_ l)), (L4, H4, fun W => NdNew L4 H4 W y4a y4b y4c y4d y4e x)] from HL11.out.made e12 f12 h (by rw [← e12, ← f12]; exact hn.solid))
 clear h hn e12 f12
 go_wp2_with (first
  | (refine wpList_load_at rfl 48 (.tmp 9) rfl (R10) 0 rfl 48 (qL0 x y9a N1 N1 y9b N2 N2 y9c N3 N3 y9d N4 N4 y9e N5 N5 x.s) (0, 0) (HL12.out.get (.head _)) [.int .i64 x.c.n.u, .int .i64 x.c.n.m, .int .i64 x.c.n.i, .int .i64 x.c.n.f, .int .i64 x.c.n.c, .int .i64 x.c.n.s, .int .i64 x.c.n.y, .bool x.c.n.a, .int .i64 x.c.ad, .int .i64 x.c.st, .int .i64 x.c.lf, .slice y9a N1 N1, .slice y9b N2 N2, .slice y9c N3 N3, .slice y9d N4 N4, .slice y9e N5 N5, .int .i64 x.s] rfl _ Tryz.underlying48 rfl (by kernel_rfl) ?_))
 refine ((HQ _ _ _ _ _ _ (HL12.out.at qLm1).ins _ (HL12.out.at (.head _)).ins).out).mono ?_
 rintro e w13 ⟨z13a, z13b, z13c, z13d, z13e, f13a, f13b, f13c, f13d, f13e, rfl, hn, h⟩
 obtain ⟨L13, e13⟩ : ∃ x, w12.heap.size = x := ⟨_, rfl⟩
 obtain ⟨H13, f13⟩ : ∃ x, w13.heap.size = x := ⟨_, rfl⟩
 have qL13_R10 : R10 < L13 := Nat.lt_of_lt_of_eq (HL12.out.lt (.head _)) e13
 have qL13_R7 : R7 < L13 := Nat.lt_of_lt_of_eq (HL12.out.lt qLm1) e13
 have qL13_R1 : R1 < L13 := Nat.lt_of_lt_of_eq (HL12.out.lt qLm2) e13
 have qL13_H12 : H12 ≤ L13 := Nat.le_trans (HL12.out.hi (.head _)).2 (Nat.le_of_eq e13)
 have qL13_H9 : H9 ≤ L13 := Nat.le_trans (HL12.out.hi qLm1).2 (Nat.le_of_eq e13)
 have qL13_H6 : H6 ≤ L13 := Nat.le_trans (HL12.out.hi qLm2).2 (Nat.le_of_eq e13)
 have qL13_H5 : H5 ≤ L13 := Nat.le_trans (HL12.out.hi qLm3).2 (Nat.le_of_eq e13)
 have qL13_H4 : H4 ≤ L13 := Nat.le_trans (HL12.out.hi qLm4).2 (Nat.le_of_eq e13)
 have qH13_L13 : L13 ≤ H13 := (by rw [← e13, ← f13]; exact h.size)
 have HL13 := Lib.hid (show Lg w w13 [(R10, (qL0 x y9a N1 N1 y9b N2 N2 y9c N3 N3 y9d N4 N4 y9e N5 N5 x.s), 48), (R7, (qL2 X z6a f6a z6b f6b z6c f6c z6d f6d z6e f6e X.s cd), 50), (R1, (qL0 x a1 N1 c1 a2 N2 c2 a3 N3 c3 a4 N4 c4 a5 N5 c5 x.s), 34)] [(L13, H13, (fun W => NdNew L13 H13 W z13a z13b z13c z13d z13e X)), (L12, H12, (fun W => RsNew vlL 2 99 L12 H12 W v12_ l)), (L9, H9, fun W => NdNew L9 H9 W y9a y9b y9c y9d y9e x), (L6, H6, (fun W => NdNew L6 H6 W z6a z6b z6c z6d z6e X)), (L5, H5, (fun W => RsNew vlL 2 99 L5 H5 W v5_ l)), (L4, H4, fun W => NdNew L4 H4 W y4a y4b y4c y4d y4e x)] from HL12.out.made e13 f13 h (by rw [← e13, ← f13]; exact hn.solid))
 clear h hn e13 f13
 go_wp2_with (first
  | (refine wpList_alloc_h rfl 50 rfl (.agg #[.int .i64 0, .int .i64 0, .int .i64 0, .int .i64 0, .int .i64 0, .int .i64 0, .int .i64 0, .bool false, .int .i64 0, .int .i64 0, .int .i64 0, .slice none 0 0, .slice none 0 0, .slice none 0 0, .slice none 0 0, .slice none 0 0, .int .i64 0, .int .i64 0]) (by kernel_rfl) #[.int .i64 0, .int .i64 0, .int .i64 0, .int .i64 0, .int .i64 0, .int .i64 0, .int .i64 0, .bool false, .int .i64 0, .int .i64 0, .int .i64 0, .slice none 0 0, .slice none 0 0, .slice none 0 0, .slice none 0 0, .slice none 0 0, .int .i64 0, .int .i64 0] rfl ?_; intro w14 R14 e14 g14 b14; have qR14_R10 : R10 < R14 := Nat.lt_of_lt_of_eq (HL13.out.lt (.head _)) e14; have qR14_R7 : R7 < R14 := Nat.lt_of_lt_of_eq (HL13.out.lt qLm1) e14; have qR14_R1 : R1 < R14 := Nat.lt_of_lt_of_eq (HL13.out.lt qLm2) e14; have qR14_H13 : H13 ≤ R14 := Nat.le_trans (HL13.out.hi (.head _)).2 (Nat.le_of_eq e14); have qR14_H12 : H12 ≤ R14 := Nat.le_trans (HL13.out.hi qLm1).2 (Nat.le_of_eq e14); have qR14_H9 : H9 ≤ R14 := Nat.le_trans (HL13.out.hi qLm2).2 (Nat.le_of_eq e14); have qR14_H6 : H6 ≤ R14 := Nat.le_trans (HL13.out.hi qLm3).2 (Nat.le_of_eq e14); have qR14_H5 : H5 ≤ R14 := Nat.le_trans (HL13.out.hi qLm4).2 (Nat.le_of_eq e14); have qR14_H4 : H4 ≤ R14 := Nat.le_trans (HL13.out.hi qLm5).2 (Nat.le_of_eq e14); have HL14 := Lib.hid (show Lg w w14 [(R14, (qL1), 50), (R10, (qL0 x y9a N1 N1 y9b N2 N2 y9c N3 N3 y9d N4 N4 y9e N5 N5 x.s), 48), (R7, (qL2 X z6a f6a z6b f6b z6c f6c z6d f6d z6e f6e X.s cd), 50), (R1, (qL0 x a1 N1 c1 a2 N2 c2 a3 N3 c3 a4 N4 c4 a5 N5 c5 x.s), 34)] [(L13, H13, (fun W => NdNew L13 H13 W z13a z13b z13c z13d z13e X)), (L12, H12, (fun W => RsNew vlL 2 99 L12 H12 W v12_ l)), (L9, H9, fun W => NdNew L9 H9 W y9a y9b y9c y9d y9e x), (L6, H6, (fun W => NdNew L6 H6 W z6a z6b z6c z6d z6e X)), (L5, H5, (fun W => RsNew vlL 2 99 L5 H5 W v5_ l)), (L4, H4, fun W => NdNew L4 H4 W y4a y4b y4c y4d y4e x)] from HL13.out.box e14 g14 b14); clear g14 b14 e14)
  | (refine wpList_put_at rfl 50 (.tmp 11) (.tmp 39) rfl rfl (R14) 0 rfl _ rfl #[.int .i64 X.c.n.u, .int .i64 X.c.n.m, .int .i64 X.c.n.i, .int .i64 X.c.n.f, .int .i64 X.c.n.c, .int .i64 X.c.n.s, .int .i64 X.c.n.y, .bool X.c.n.a, .int .i64 X.c.ad, .int .i64 X.c.st, .int .i64 X.c.lf, .slice z13a X.c.tk.length f13a, .slice z13b X.q.length f13b, .slice z13c X.t.length f13c, .slice z13d X.d.length f13d, .slice z13e X.g.length f13e, .int .i64 X.s, .int .i64 cd] rfl 50 (qL1) (qL2 X z13a f13a z13b f13b z13c f13c z13d f13d z13e f13e X.s cd) (HL14.out.get (.head _)) (by kernel_rfl) (by kernel_rfl) (by kernel_rfl) (by kernel_rfl) ?_; intro w15 g15 o15; have HL15 := Lib.hid (show Lg w w15 [(R14, (qL2 X z13a f13a z13b f13b z13c f13c z13d f13d z13e f13e X.s cd), 50), (R10, (qL0 x y9a N1 N1 y9b N2 N2 y9c N3 N3 y9d N4 N4 y9e N5 N5 x.s), 48), (R7, (qL2 X z6a f6a z6b f6b z6c f6c z6d f6d z6e f6e X.s cd), 50), (R1, (qL0 x a1 N1 c1 a2 N2 c2 a3 N3 c3 a4 N4 c4 a5 N5 c5 x.s), 34)] [(L13, H13, (fun W => NdNew L13 H13 W z13a z13b z13c z13d z13e X)), (L12, H12, (fun W => RsNew vlL 2 99 L12 H12 W v12_ l)), (L9, H9, fun W => NdNew L9 H9 W y9a y9b y9c y9d y9e x), (L6, H6, (fun W => NdNew L6 H6 W z6a z6b z6c z6d z6e X)), (L5, H5, (fun W => RsNew vlL 2 99 L5 H5 W v5_ l)), (L4, H4, fun W => NdNew L4 H4 W y4a y4b y4c y4d y4e x)] from HL14.out.put 0 rfl g15 o15 (qLf ⟨Nat.ne_of_lt qR14_R10, (qLf ⟨Nat.ne_of_lt qR14_R7, (qLf ⟨Nat.ne_of_lt qR14_R1, (fun _ h => nomatch h)⟩)⟩)⟩) (qLf ⟨.inl qR14_H13, (qLf ⟨.inl qR14_H12, (qLf ⟨.inl qR14_H9, (qLf ⟨.inl qR14_H6, (qLf ⟨.inl qR14_H5, (qLf ⟨.inl qR14_H4, (fun _ h => nomatch h)⟩)⟩)⟩)⟩)⟩)⟩) rfl); clear g15 o15)
  | (refine wpList_load_at rfl 50 (.tmp 11) rfl (R14) 0 rfl 50 (qL2 X z13a f13a z13b f13b z13c f13c z13d f13d z13e f13e X.s cd) (0, 0) (HL15.out.get (.head _)) [.int .i64 X.c.n.u, .int .i64 X.c.n.m, .int .i64 X.c.n.i, .int .i64 X.c.n.f, .int .i64 X.c.n.c, .int .i64 X.c.n.s, .int .i64 X.c.n.y, .bool X.c.n.a, .int .i64 X.c.ad, .int .i64 X.c.st, .int .i64 X.c.lf, .slice z13a X.c.tk.length f13a, .slice z13b X.q.length f13b, .slice z13c X.t.length f13c, .slice z13d X.d.length f13d, .slice z13e X.g.length f13e, .int .i64 X.s, .int .i64 cd] rfl _ Tryz.underlying50 rfl (by kernel_rfl) ?_)
  | (refine wpList_load_at rfl 50 (.tmp 8) rfl (R7) 0 rfl 50 (qL2 X z6a f6a z6b f6b z6c f6c z6d f6d z6e f6e X.s cd) (0, 0) (HL15.out.get qLm2) [.int .i64 X.c.n.u, .int .i64 X.c.n.m, .int .i64 X.c.n.i, .int .i64 X.c.n.f, .int .i64 X.c.n.c, .int .i64 X.c.n.s, .int .i64 X.c.n.y, .bool X.c.n.a, .int .i64 X.c.ad, .int .i64 X.c.st, .int .i64 X.c.lf, .slice z6a X.c.tk.length f6a, .slice z6b X.q.length f6b, .slice z6c X.t.length f6c, .slice z6d X.d.length f6d, .slice z6e X.g.length f6e, .int .i64 X.s, .int .i64 cd] rfl _ Tryz.underlying50 rfl (by kernel_rfl) ?_))
 refine ((HE _ _ _ _ _ _ _ _ _ _ _ _ _ _ _ _ _ _ _ _ _ (HL15.out.at (.head _)).ins (HL15.out.at qLm3).ins).out).mono ?_
 rintro e w16 ⟨rfl, h⟩
 have HL16 := Lib.hid (show Lg w w16 [(R14, (qL2 X z13a f13a z13b f13b z13c f13c z13d f13d z13e f13e X.s cd), 50), (R10, (qL0 x y9a N1 N1 y9b N2 N2 y9c N3 N3 y9d N4 N4 y9e N5 N5 x.s), 48), (R7, (qL2 X z6a f6a z6b f6b z6c f6c z6d f6d z6e f6e X.s cd), 50), (R1, (qL0 x a1 N1 c1 a2 N2 c2 a3 N3 c3 a4 N4 c4 a5 N5 c5 x.s), 34)] [(L13, H13, (fun W => NdNew L13 H13 W z13a z13b z13c z13d z13e X)), (L12, H12, (fun W => RsNew vlL 2 99 L12 H12 W v12_ l)), (L9, H9, fun W => NdNew L9 H9 W y9a y9b y9c y9d y9e x), (L6, H6, (fun W => NdNew L6 H6 W z6a z6b z6c z6d z6e X)), (L5, H5, (fun W => RsNew vlL 2 99 L5 H5 W v5_ l)), (L4, H4, fun W => NdNew L4 H4 W y4a y4b y4c y4d y4e x)] from HL15.out.kept h)
 clear h
 go_wp2_with fail
 have HL17 := Lib.hid (show Lg w w16 [(R1, (qL0 x a1 N1 c1 a2 N2 c2 a3 N3 c3 a4 N4 c4 a5 N5 c5 x.s), 34), (R7, (qL2 X z6a f6a z6b f6b z6c f6c z6d f6d z6e f6e X.s cd), 50), (R10, (qL0 x y9a N1 N1 y9b N2 N2 y9c N3 N3 y9d N4 N4 y9e N5 N5 x.s), 48), (R14, (qL2 X z13a f13a z13b f13b z13c f13c z13d f13d z13e f13e X.s cd), 50)] [(L13, H13, (fun W => NdNew L13 H13 W z13a z13b z13c z13d z13e X)), (L12, H12, (fun W => RsNew vlL 2 99 L12 H12 W v12_ l)), (L9, H9, fun W => NdNew L9 H9 W y9a y9b y9c y9d y9e x), (L6, H6, (fun W => NdNew L6 H6 W z6a z6b z6c z6d z6e X))] from HL16.out.less (qLf ⟨qLm3, (qLf ⟨qLm2, (qLf ⟨qLm1, (qLf ⟨(.head _), (fun _ h => nomatch h)⟩)⟩)⟩)⟩) (qLf ⟨(.head _), (qLf ⟨qLm1, (qLf ⟨qLm2, (qLf ⟨qLm3, (fun _ h => nomatch h)⟩)⟩)⟩)⟩))
 clear HL1 HL2 HL3 HL4 HL5 HL6 HL7 HL8 HL9 HL10 HL11 HL12 HL13 HL14 HL15 HL16
 have HRx := fun W (hW : Below w16.heap.size w16 W) => Lib.hid ((hW.block R10 (HL17.out.lt qLm2)).trans (HL17.out.get qLm2))
 have HR1 := fun W (hW : Below w16.heap.size w16 W) => Lib.hid ((hW.block R1 (HL17.out.lt (.head _))).trans (HL17.out.get (.head _)))
 have HBo := Lib.hid HL17.out.below
 refine wp_region_anyord (fun W => Below w16.heap.size w16 W) (fun W W' => Below W.heap.size W W') (TEq (.agg #[.int .i64 x.c.n.u, .int .i64 x.c.n.m, .int .i64 x.c.n.i, .int .i64 x.c.n.f, .int .i64 x.c.n.c, .int .i64 x.c.n.s, .int .i64 x.c.n.y, .bool x.c.n.a, .int .i64 x.c.ad, .int .i64 x.c.st, .int .i64 x.c.lf, .slice y9a N1 N1, .slice y9b N2 N2, .slice y9c N3 N3, .slice y9d N4 N4, .slice y9e N5 N5, .int .i64 x.s]) (.agg #[.int .i64 x.c.n.u, .int .i64 x.c.n.m, .int .i64 x.c.n.i, .int .i64 x.c.n.f, .int .i64 x.c.n.c, .int .i64 x.c.n.s, .int .i64 x.c.n.y, .bool x.c.n.a, .int .i64 x.c.ad, .int .i64 x.c.st, .int .i64 x.c.lf, .slice a1 N1 c1, .slice a2 N2 c2, .slice a3 N3 c3, .slice a4 N4 c4, .slice a5 N5 c5, .int .i64 x.s]) x (fun za zb zc zd ze => .agg #[.int .i64 x.c.n.u, .int .i64 x.c.n.m, .int .i64 x.c.n.i, .int .i64 x.c.n.f, .int .i64 x.c.n.c, .int .i64 x.c.n.s, .int .i64 x.c.n.y, .bool x.c.n.a, .int .i64 x.c.ad, .int .i64 x.c.st, .int .i64 x.c.lf, .slice za N1 N1, .slice zb N2 N2, .slice zc N3 N3, .slice zd N4 N4, .slice ze N5 N5, .int .i64 x.s])) (by kernel_rfl) (by kernel_rfl) (by kernel_rfl) TEq.kept (Below.refl _ _).drew ?_ ?_
 ·refine ⟨⟨rfl, fun a_ W hC hK => ?_⟩, ⟨rfl, fun a_ W hC hK => ?_⟩, ⟨rfl, fun a_ W hC hK => ?_⟩, ⟨rfl, fun a_ W hC hK => ?_⟩, ⟨rfl, fun a_ W hC hK => ?_⟩, trivial⟩
  ·have e1 : a_.eval (.tmp 9) = .pointer (some ⟨R10, 0, none⟩) := (hK.old 9 (by kernel_rfl)).trans rfl
   exact wp_load_mid 48 (.tmp 9) rfl R10 0 e1 [.int .i64 x.c.n.u, .int .i64 x.c.n.m, .int .i64 x.c.n.i, .int .i64 x.c.n.f, .int .i64 x.c.n.c, .int .i64 x.c.n.s, .int .i64 x.c.n.y, .bool x.c.n.a, .int .i64 x.c.ad, .int .i64 x.c.st, .int .i64 x.c.lf, .slice y9a N1 N1, .slice y9b N2 N2, .slice y9c N3 N3, .slice y9d N4 N4, .slice y9e N5 N5, .int .i64 x.s] _ (fun j v hv => (cell_of_row W R10 (0 + j) _ _ (0, 0) (HRx W hC).out).trans (sub17 rfl j v hv)) Tryz.underlying48 rfl (by kernel_rfl) ⟨_, rfl, hC, Below.refl _ _, rfl⟩
  ·have e1 : a_.eval (.tmp 3) = .pointer (some ⟨R1, 0, none⟩) := (hK.old 3 (by kernel_rfl)).trans rfl
   exact wp_load_mid 34 (.tmp 3) rfl R1 0 e1 [.int .i64 x.c.n.u, .int .i64 x.c.n.m, .int .i64 x.c.n.i, .int .i64 x.c.n.f, .int .i64 x.c.n.c, .int .i64 x.c.n.s, .int .i64 x.c.n.y, .bool x.c.n.a, .int .i64 x.c.ad, .int .i64 x.c.st, .int .i64 x.c.lf, .slice a1 N1 c1, .slice a2 N2 c2, .slice a3 N3 c3, .slice a4 N4 c4, .slice a5 N5 c5, .int .i64 x.s] _ (fun j v hv => (cell_of_row W R1 (0 + j) _ _ (0, 0) (HR1 W hC).out).trans (sub17 rfl j v hv)) Tryz.underlying34 rfl (by kernel_rfl) ⟨_, rfl, hC, Below.refl _ _, rfl⟩
  ·have e1 : a_.eval (.tmp 45) = .agg #[.int .i64 x.c.n.u, .int .i64 x.c.n.m, .int .i64 x.c.n.i, .int .i64 x.c.n.f, .int .i64 x.c.n.c, .int .i64 x.c.n.s, .int .i64 x.c.n.y, .bool x.c.n.a, .int .i64 x.c.ad, .int .i64 x.c.st, .int .i64 x.c.lf, .slice a1 N1 c1, .slice a2 N2 c2, .slice a3 N3 c3, .slice a4 N4 c4, .slice a5 N5 c5, .int .i64 x.s] := freeOf_get hK 1 45 (by kernel_rfl) rfl rfl rfl
   simp only [Act.eval, Array.getD_eq_getD_getElem?] at e1
   refine ob_call rfl Tryz.func9 (by kernel_rfl) (by kernel_rfl) (vals := #[.agg #[.int .i64 x.c.n.u, .int .i64 x.c.n.m, .int .i64 x.c.n.i, .int .i64 x.c.n.f, .int .i64 x.c.n.c, .int .i64 x.c.n.s, .int .i64 x.c.n.y, .bool x.c.n.a, .int .i64 x.c.ad, .int .i64 x.c.st, .int .i64 x.c.lf, .slice a1 N1 c1, .slice a2 N2 c2, .slice a3 N3 c3, .slice a4 N4 c4, .slice a5 N5 c5, .int .i64 x.s]]) (by simp [Act.eval, e1]) ?_
   refine (HT W (HI.out.kept (HBo.out.trans (hC.mono HBo.out.size)))).out.mono ?_
   rintro e W' ⟨za, zb, zc, zd, ze, rfl, hnz, hb⟩
   exact ⟨_, rfl, _, rfl, hC.trans (hb.mono hC.size), hb, za, zb, zc, zd, ze, rfl, hnz.ins⟩
  ·have e1 : a_.eval (.tmp 44) = .agg #[.int .i64 x.c.n.u, .int .i64 x.c.n.m, .int .i64 x.c.n.i, .int .i64 x.c.n.f, .int .i64 x.c.n.c, .int .i64 x.c.n.s, .int .i64 x.c.n.y, .bool x.c.n.a, .int .i64 x.c.ad, .int .i64 x.c.st, .int .i64 x.c.lf, .slice y9a N1 N1, .slice y9b N2 N2, .slice y9c N3 N3, .slice y9d N4 N4, .slice y9e N5 N5, .int .i64 x.s] := freeOf_get hK 0 44 (by kernel_rfl) rfl rfl rfl
   obtain ⟨za, zb, zc, zd, ze, e2, hz⟩ : TEq (.agg #[.int .i64 x.c.n.u, .int .i64 x.c.n.m, .int .i64 x.c.n.i, .int .i64 x.c.n.f, .int .i64 x.c.n.c, .int .i64 x.c.n.s, .int .i64 x.c.n.y, .bool x.c.n.a, .int .i64 x.c.ad, .int .i64 x.c.st, .int .i64 x.c.lf, .slice y9a N1 N1, .slice y9b N2 N2, .slice y9c N3 N3, .slice y9d N4 N4, .slice y9e N5 N5, .int .i64 x.s]) (.agg #[.int .i64 x.c.n.u, .int .i64 x.c.n.m, .int .i64 x.c.n.i, .int .i64 x.c.n.f, .int .i64 x.c.n.c, .int .i64 x.c.n.s, .int .i64 x.c.n.y, .bool x.c.n.a, .int .i64 x.c.ad, .int .i64 x.c.st, .int .i64 x.c.lf, .slice a1 N1 c1, .slice a2 N2 c2, .slice a3 N3 c3, .slice a4 N4 c4, .slice a5 N5 c5, .int .i64 x.s]) x (fun za zb zc zd ze => .agg #[.int .i64 x.c.n.u, .int .i64 x.c.n.m, .int .i64 x.c.n.i, .int .i64 x.c.n.f, .int .i64 x.c.n.c, .int .i64 x.c.n.s, .int .i64 x.c.n.y, .bool x.c.n.a, .int .i64 x.c.ad, .int .i64 x.c.st, .int .i64 x.c.lf, .slice za N1 N1, .slice zb N2 N2, .slice zc N3 N3, .slice zd N4 N4, .slice ze N5 N5, .int .i64 x.s]) 2 W (a_.eval (.tmp 46)) := freeOf_get hK 2 46 (by kernel_rfl) rfl rfl rfl
   simp only [Act.eval, Array.getD_eq_getD_getElem?] at e1 e2
   refine ob_call rfl Tryz.func13 (by kernel_rfl) (by kernel_rfl) (vals := #[.agg #[.int .i64 x.c.n.u, .int .i64 x.c.n.m, .int .i64 x.c.n.i, .int .i64 x.c.n.f, .int .i64 x.c.n.c, .int .i64 x.c.n.s, .int .i64 x.c.n.y, .bool x.c.n.a, .int .i64 x.c.ad, .int .i64 x.c.st, .int .i64 x.c.lf, .slice y9a N1 N1, .slice y9b N2 N2, .slice y9c N3 N3, .slice y9d N4 N4, .slice y9e N5 N5, .int .i64 x.s], .agg #[.int .i64 x.c.n.u, .int .i64 x.c.n.m, .int .i64 x.c.n.i, .int .i64 x.c.n.f, .int .i64 x.c.n.c, .int .i64 x.c.n.s, .int .i64 x.c.n.y, .bool x.c.n.a, .int .i64 x.c.ad, .int .i64 x.c.st, .int .i64 x.c.lf, .slice za N1 N1, .slice zb N2 N2, .slice zc N3 N3, .slice zd N4 N4, .slice ze N5 N5, .int .i64 x.s]]) (by simp [Act.eval, e1, e2]) ?_
   refine (HEN W _ _ _ _ _ _ _ _ _ _ ((HL17.out.at qLm2).ins.kept hC) hz).out.mono ?_
   rintro e W' ⟨rfl, hb⟩
   exact ⟨_, rfl, _, rfl, hC.trans (hb.mono hC.size), hb, rfl⟩
  ·have e1 : a_.eval (.tmp 47) = .bool true := freeOf_get hK 3 47 (by kernel_rfl) rfl rfl rfl
   simp only [Act.eval, Array.getD_eq_getD_getElem?] at e1
   exact ob_value (v := .bool false) (w' := W) (by simp [execOp, go_sem, e1]) ⟨_, rfl, hC, Below.refl _ _, rfl⟩
 intro vs wz2 hC hT
 have e4 : vs 4 = .bool false := hT 4 (by decide)
 simp only [fillL, if_true, Act.put, List.setIfInBounds_toArray, List.set_cons_zero, List.set_cons_succ, e4]
 have HL18 := Lib.hid (show Lg w wz2 [(R1, (qL0 x a1 N1 c1 a2 N2 c2 a3 N3 c3 a4 N4 c4 a5 N5 c5 x.s), 34), (R7, (qL2 X z6a f6a z6b f6b z6c f6c z6d f6d z6e f6e X.s cd), 50), (R10, (qL0 x y9a N1 N1 y9b N2 N2 y9c N3 N3 y9d N4 N4 y9e N5 N5 x.s), 48), (R14, (qL2 X z13a f13a z13b f13b z13c f13c z13d f13d z13e f13e X.s cd), 50)] [(L13, H13, (fun W => NdNew L13 H13 W z13a z13b z13c z13d z13e X)), (L12, H12, (fun W => RsNew vlL 2 99 L12 H12 W v12_ l)), (L9, H9, fun W => NdNew L9 H9 W y9a y9b y9c y9d y9e x), (L6, H6, (fun W => NdNew L6 H6 W z6a z6b z6c z6d z6e X))] from HL17.out.kept hC)
 clear hT hC e4 HRx HR1
 go_wp2_with fail
 refine ((toValueS_new b bc l _ (HVI.out.kept HL18.out.below) hvl2)).mono ?_
 rintro e w19 ⟨v19_, rfl, hn, h⟩
 obtain ⟨L19, e19⟩ : ∃ x, wz2.heap.size = x := ⟨_, rfl⟩
 obtain ⟨H19, f19⟩ : ∃ x, w19.heap.size = x := ⟨_, rfl⟩
 have qL19_R1 : R1 < L19 := Nat.lt_of_lt_of_eq (HL18.out.lt (.head _)) e19
 have qL19_R7 : R7 < L19 := Nat.lt_of_lt_of_eq (HL18.out.lt qLm1) e19
 have qL19_R10 : R10 < L19 := Nat.lt_of_lt_of_eq (HL18.out.lt qLm2) e19
 have qL19_R14 : R14 < L19 := Nat.lt_of_lt_of_eq (HL18.out.lt qLm3) e19
 have qL19_H13 : H13 ≤ L19 := Nat.le_trans (HL18.out.hi (.head _)).2 (Nat.le_of_eq e19)
 have qL19_H12 : H12 ≤ L19 := Nat.le_trans (HL18.out.hi qLm1).2 (Nat.le_of_eq e19)
 have qL19_H9 : H9 ≤ L19 := Nat.le_trans (HL18.out.hi qLm2).2 (Nat.le_of_eq e19)
 have qL19_H6 : H6 ≤ L19 := Nat.le_trans (HL18.out.hi qLm3).2 (Nat.le_of_eq e19)
 have qH19_L19 : L19 ≤ H19 := (by rw [← e19, ← f19]; exact h.size)
 have HL19 := Lib.hid (show Lg w w19 [(R1, (qL0 x a1 N1 c1 a2 N2 c2 a3 N3 c3 a4 N4 c4 a5 N5 c5 x.s), 34), (R7, (qL2 X z6a f6a z6b f6b z6c f6c z6d f6d z6e f6e X.s cd), 50), (R10, (qL0 x y9a N1 N1 y9b N2 N2 y9c N3 N3 y9d N4 N4 y9e N5 N5 x.s), 48), (R14, (qL2 X z13a f13a z13b f13b z13c f13c z13d f13d z13e f13e X.s cd), 50)] [(L19, H19, (fun W => RsNew vlL 2 99 L19 H19 W v19_ l)), (L13, H13, (fun W => NdNew L13 H13 W z13a z13b z13c z13d z13e X)), (L12, H12, (fun W => RsNew vlL 2 99 L12 H12 W v12_ l)), (L9, H9, fun W => NdNew L9 H9 W y9a y9b y9c y9d y9e x), (L6, H6, (fun W => NdNew L6 H6 W z6a z6b z6c z6d z6e X))] from HL18.out.made e19 f19 h (by rw [← e19, ← f19]; exact hn.solid))
 clear h hn e19 f19
 go_wp2_with fail
 refine (eqValueS_same _ _ _ _ l _ (HL19.out.at qLm2).ins (HL19.out.at (.head _)).ins hvl2).mono ?_
 rintro e w20 ⟨rfl, h⟩
 have HL20 := Lib.hid (show Lg w w20 [(R1, (qL0 x a1 N1 c1 a2 N2 c2 a3 N3 c3 a4 N4 c4 a5 N5 c5 x.s), 34), (R7, (qL2 X z6a f6a z6b f6b z6c f6c z6d f6d z6e f6e X.s cd), 50), (R10, (qL0 x y9a N1 N1 y9b N2 N2 y9c N3 N3 y9d N4 N4 y9e N5 N5 x.s), 48), (R14, (qL2 X z13a f13a z13b f13b z13c f13c z13d f13d z13e f13e X.s cd), 50)] [(L19, H19, (fun W => RsNew vlL 2 99 L19 H19 W v19_ l)), (L13, H13, (fun W => NdNew L13 H13 W z13a z13b z13c z13d z13e X)), (L12, H12, (fun W => RsNew vlL 2 99 L12 H12 W v12_ l)), (L9, H9, fun W => NdNew L9 H9 W y9a y9b y9c y9d y9e x), (L6, H6, (fun W => NdNew L6 H6 W z6a z6b z6c z6d z6e X))] from HL19.out.kept h)
 clear h
 go_wp2_with (first
  | (refine wpList_load_at rfl 48 (.tmp 9) rfl (R10) 0 rfl 48 (qL0 x y9a N1 N1 y9b N2 N2 y9c N3 N3 y9d N4 N4 y9e N5 N5 x.s) (0, 0) (HL20.out.get qLm2) [.int .i64 x.c.n.u, .int .i64 x.c.n.m, .int .i64 x.c.n.i, .int .i64 x.c.n.f, .int .i64 x.c.n.c, .int .i64 x.c.n.s, .int .i64 x.c.n.y, .bool x.c.n.a, .int .i64 x.c.ad, .int .i64 x.c.st, .int .i64 x.c.lf, .slice y9a N1 N1, .slice y9b N2 N2, .slice y9c N3 N3, .slice y9d N4 N4, .slice y9e N5 N5, .int .i64 x.s] rfl _ Tryz.underlying48 rfl (by kernel_rfl) ?_))
 refine ((HMN L9 H9 _ _ _ _ _ _ (HL20.out.at qLm3) (HL20.out.hi qLm3).2).out).mono ?_
 rintro e w21 ⟨rfl, hn, ho⟩
 have HL21 := Lib.hid (show Lg w w21 [(R1, (qL0 x a1 N1 c1 a2 N2 c2 a3 N3 c3 a4 N4 c4 a5 N5 c5 x.s), 34), (R7, (qL2 X z6a f6a z6b f6b z6c f6c z6d f6d z6e f6e X.s cd), 50), (R10, (qL0 x y9a N1 N1 y9b N2 N2 y9c N3 N3 y9d N4 N4 y9e N5 N5 x.s), 48), (R14, (qL2 X z13a f13a z13b f13b z13c f13c z13d f13d z13e f13e X.s cd), 50)] [(L19, H19, (fun W => RsNew vlL 2 99 L19 H19 W v19_ l)), (L13, H13, (fun W => NdNew L13 H13 W z13a z13b z13c z13d z13e X)), (L12, H12, (fun W => RsNew vlL 2 99 L12 H12 W v12_ l)), (L9, H9, (fun W => NdNew L9 H9 W y9a y9b y9c y9d y9e (markNd x))), (L6, H6, (fun W => NdNew L6 H6 W z6a z6b z6c z6d z6e X))] from HL20.out.mark 3 rfl ho hn.solid (qLf ⟨.inl qL9_R1, (qLf ⟨.inl qL9_R7, (qLf ⟨.inr qR10_H9, (qLf ⟨.inr qR14_H9, (fun _ h => nomatch h)⟩)⟩)⟩)⟩) (qLf ⟨.inr qL19_H9, (qLf ⟨.inr qL13_H9, (qLf ⟨.inr qL12_H9, (qLf ⟨.inl qL9_H6, (fun _ h => nomatch h)⟩)⟩)⟩)⟩) rfl)
 clear hn ho
 go_wp2_with fail
 refine (markValueS_any _ _ l (endNd x) _ (HL21.out.at qLm2) hE0 hE1).mono ?_
 rintro e w22 ⟨rfl, hn, ho⟩
 have HL22 := Lib.hid (show Lg w w22 [(R1, (qL0 x a1 N1 c1 a2 N2 c2 a3 N3 c3 a4 N4 c4 a5 N5 c5 x.s), 34), (R7, (qL2 X z6a f6a z6b f6b z6c f6c z6d f6d z6e f6e X.s cd), 50), (R10, (qL0 x y9a N1 N1 y9b N2 N2 y9c N3 N3 y9d N4 N4 y9e N5 N5 x.s), 48), (R14, (qL2 X z13a f13a z13b f13b z13c f13c z13d f13d z13e f13e X.s cd), 50)] [(L19, H19, (fun W => RsNew vlL 2 99 L19 H19 W v19_ l)), (L13, H13, (fun W => NdNew L13 H13 W z13a z13b z13c z13d z13e X)), (L12, H12, (fun W => RsNew vlL 2 99 L12 H12 W v12_ (marksVl (endNd x) l.length))), (L9, H9, (fun W => NdNew L9 H9 W y9a y9b y9c y9d y9e (markNd x))), (L6, H6, (fun W => NdNew L6 H6 W z6a z6b z6c z6d z6e X))] from HL21.out.mark 2 rfl ho hn.solid (qLf ⟨.inl qL12_R1, (qLf ⟨.inl qL12_R7, (qLf ⟨.inl qL12_R10, (qLf ⟨.inr qR14_H12, (fun _ h => nomatch h)⟩)⟩)⟩)⟩) (qLf ⟨.inr qL19_H12, (qLf ⟨.inr qL13_H12, (qLf ⟨.inl qL12_H9, (qLf ⟨.inl qL12_H6, (fun _ h => nomatch h)⟩)⟩)⟩)⟩) rfl)
 clear hn ho
 go_wp2_with (first
  | (refine wpList_load_at rfl 50 (.tmp 11) rfl (R14) 0 rfl 50 (qL2 X z13a f13a z13b f13b z13c f13c z13d f13d z13e f13e X.s cd) (0, 0) (HL22.out.get qLm3) [.int .i64 X.c.n.u, .int .i64 X.c.n.m, .int .i64 X.c.n.i, .int .i64 X.c.n.f, .int .i64 X.c.n.c, .int .i64 X.c.n.s, .int .i64 X.c.n.y, .bool X.c.n.a, .int .i64 X.c.ad, .int .i64 X.c.st, .int .i64 X.c.lf, .slice z13a X.c.tk.length f13a, .slice z13b X.q.length f13b, .slice z13c X.t.length f13c, .slice z13d X.d.length f13d, .slice z13e X.g.length f13e, .int .i64 X.s, .int .i64 cd] rfl _ Tryz.underlying50 rfl (by kernel_rfl) ?_)
  | (refine wpList_load_at rfl 50 (.tmp 8) rfl (R7) 0 rfl 50 (qL2 X z6a f6a z6b f6b z6c f6c z6d f6d z6e f6e X.s cd) (0, 0) (HL22.out.get qLm1) [.int .i64 X.c.n.u, .int .i64 X.c.n.m, .int .i64 X.c.n.i, .int .i64 X.c.n.f, .int .i64 X.c.n.c, .int .i64 X.c.n.s, .int .i64 X.c.n.y, .bool X.c.n.a, .int .i64 X.c.ad, .int .i64 X.c.st, .int .i64 X.c.lf, .slice z6a X.c.tk.length f6a, .slice z6b X.q.length f6b, .slice z6c X.t.length f6c, .slice z6d X.d.length f6d, .slice z6e X.g.length f6e, .int .i64 X.s, .int .i64 cd] rfl _ Tryz.underlying50 rfl (by kernel_rfl) ?_))
 refine ((HE _ _ _ _ _ _ _ _ _ _ _ _ _ _ _ _ _ _ _ _ _ (HL22.out.at qLm1).ins (HL22.out.at qLm4).ins).out).mono ?_
 rintro e w23 ⟨rfl, h⟩
 have HL23 := Lib.hid (show Lg w w23 [(R1, (qL0 x a1 N1 c1 a2 N2 c2 a3 N3 c3 a4 N4 c4 a5 N5 c5 x.s), 34), (R7, (qL2 X z6a f6a z6b f6b z6c f6c z6d f6d z6e f6e X.s cd), 50), (R10, (qL0 x y9a N1 N1 y9b N2 N2 y9c N3 N3 y9d N4 N4 y9e N5 N5 x.s), 48), (R14, (qL2 X z13a f13a z13b f13b z13c f13c z13d f13d z13e f13e X.s cd), 50)] [(L19, H19, (fun W => RsNew vlL 2 99 L19 H19 W v19_ l)), (L13, H13, (fun W => NdNew L13 H13 W z13a z13b z13c z13d z13e X)), (L12, H12, (fun W => RsNew vlL 2 99 L12 H12 W v12_ (marksVl (endNd x) l.length))), (L9, H9, (fun W => NdNew L9 H9 W y9a y9b y9c y9d y9e (markNd x))), (L6, H6, (fun W => NdNew L6 H6 W z6a z6b z6c z6d z6e X))] from HL22.out.kept h)
 clear h
 go_wp2_with (first
  | (refine wpList_load_at rfl 50 (.tmp 11) rfl (R14) 0 rfl 50 (qL2 X z13a f13a z13b f13b z13c f13c z13d f13d z13e f13e X.s cd) (0, 0) (HL23.out.get qLm3) [.int .i64 X.c.n.u, .int .i64 X.c.n.m, .int .i64 X.c.n.i, .int .i64 X.c.n.f, .int .i64 X.c.n.c, .int .i64 X.c.n.s, .int .i64 X.c.n.y, .bool X.c.n.a, .int .i64 X.c.ad, .int .i64 X.c.st, .int .i64 X.c.lf, .slice z13a X.c.tk.length f13a, .slice z13b X.q.length f13b, .slice z13c X.t.length f13c, .slice z13d X.d.length f13d, .slice z13e X.g.length f13e, .int .i64 X.s, .int .i64 cd] rfl _ Tryz.underlying50 rfl (by kernel_rfl) ?_))
 refine ((HM L13 H13 _ _ _ _ _ _ _ _ _ _ _ (HL23.out.at qLm1) (HL23.out.hi qLm1).2).out).mono ?_
 rintro e w24 ⟨rfl, hn, ho⟩
 have HL24 := Lib.hid (show Lg w w24 [(R1, (qL0 x a1 N1 c1 a2 N2 c2 a3 N3 c3 a4 N4 c4 a5 N5 c5 x.s), 34), (R7, (qL2 X z6a f6a z6b f6b z6c f6c z6d f6d z6e f6e X.s cd), 50), (R10, (qL0 x y9a N1 N1 y9b N2 N2 y9c N3 N3 y9d N4 N4 y9e N5 N5 x.s), 48), (R14, (qL2 X z13a f13a z13b f13b z13c f13c z13d f13d z13e f13e X.s cd), 50)] [(L19, H19, (fun W => RsNew vlL 2 99 L19 H19 W v19_ l)), (L13, H13, (fun W => NdNew L13 H13 W z13a z13b z13c z13d z13e (markNd X))), (L12, H12, (fun W => RsNew vlL 2 99 L12 H12 W v12_ (marksVl (endNd x) l.length))), (L9, H9, (fun W => NdNew L9 H9 W y9a y9b y9c y9d y9e (markNd x))), (L6, H6, (fun W => NdNew L6 H6 W z6a z6b z6c z6d z6e X))] from HL23.out.mark 1 rfl ho hn.solid (qLf ⟨.inl qL13_R1, (qLf ⟨.inl qL13_R7, (qLf ⟨.inl qL13_R10, (qLf ⟨.inr qR14_H13, (fun _ h => nomatch h)⟩)⟩)⟩)⟩) (qLf ⟨.inr qL19_H13, (qLf ⟨.inl qL13_H12, (qLf ⟨.inl qL13_H9, (qLf ⟨.inl qL13_H6, (fun _ h => nomatch h)⟩)⟩)⟩)⟩) rfl)
 clear hn ho
 go_wp2_with (first
  | (refine wpList_load_at rfl 50 (.tmp 11) rfl (R14) 0 rfl 50 (qL2 X z13a f13a z13b f13b z13c f13c z13d f13d z13e f13e X.s cd) (0, 0) (HL24.out.get qLm3) [.int .i64 X.c.n.u, .int .i64 X.c.n.m, .int .i64 X.c.n.i, .int .i64 X.c.n.f, .int .i64 X.c.n.c, .int .i64 X.c.n.s, .int .i64 X.c.n.y, .bool X.c.n.a, .int .i64 X.c.ad, .int .i64 X.c.st, .int .i64 X.c.lf, .slice z13a X.c.tk.length f13a, .slice z13b X.q.length f13b, .slice z13c X.t.length f13c, .slice z13d X.d.length f13d, .slice z13e X.g.length f13e, .int .i64 X.s, .int .i64 cd] rfl _ Tryz.underlying50 rfl (by kernel_rfl) ?_))
 refine ((HH L13 H13 _ _ _ _ _ _ _ _ _ _ _ (HL24.out.at qLm1)).out).mono ?_
 rintro e w25 ⟨rfl, h⟩
 have HL25 := Lib.hid (show Lg w w25 [(R1, (qL0 x a1 N1 c1 a2 N2 c2 a3 N3 c3 a4 N4 c4 a5 N5 c5 x.s), 34), (R7, (qL2 X z6a f6a z6b f6b z6c f6c z6d f6d z6e f6e X.s cd), 50), (R10, (qL0 x y9a N1 N1 y9b N2 N2 y9c N3 N3 y9d N4 N4 y9e N5 N5 x.s), 48), (R14, (qL2 X z13a f13a z13b f13b z13c f13c z13d f13d z13e f13e X.s cd), 50)] [(L19, H19, (fun W => RsNew vlL 2 99 L19 H19 W v19_ l)), (L13, H13, (fun W => NdNew L13 H13 W z13a z13b z13c z13d z13e (markNd X))), (L12, H12, (fun W => RsNew vlL 2 99 L12 H12 W v12_ (marksVl (endNd x) l.length))), (L9, H9, (fun W => NdNew L9 H9 W y9a y9b y9c y9d y9e (markNd x))), (L6, H6, (fun W => NdNew L6 H6 W z6a z6b z6c z6d z6e X))] from HL24.out.kept h)
 clear h
 go_wp2_with (first
  | (refine wpList_load_at rfl 34 (.tmp 3) rfl (R1) 0 rfl 34 (qL0 x a1 N1 c1 a2 N2 c2 a3 N3 c3 a4 N4 c4 a5 N5 c5 x.s) (0, 0) (HL25.out.get (.head _)) [.int .i64 x.c.n.u, .int .i64 x.c.n.m, .int .i64 x.c.n.i, .int .i64 x.c.n.f, .int .i64 x.c.n.c, .int .i64 x.c.n.s, .int .i64 x.c.n.y, .bool x.c.n.a, .int .i64 x.c.ad, .int .i64 x.c.st, .int .i64 x.c.lf, .slice a1 N1 c1, .slice a2 N2 c2, .slice a3 N3 c3, .slice a4 N4 c4, .slice a5 N5 c5, .int .i64 x.s] rfl _ Tryz.underlying34 rfl (by kernel_rfl) ?_))
 refine ((HT _ (HI.out.kept HL25.out.below)).out).mono ?_
 rintro e w26 ⟨y26a, y26b, y26c, y26d, y26e, rfl, hn, h⟩
 obtain ⟨L26, e26⟩ : ∃ x, w25.heap.size = x := ⟨_, rfl⟩
 obtain ⟨H26, f26⟩ : ∃ x, w26.heap.size = x := ⟨_, rfl⟩
 have qL26_R1 : R1 < L26 := Nat.lt_of_lt_of_eq (HL25.out.lt (.head _)) e26
 have qL26_R7 : R7 < L26 := Nat.lt_of_lt_of_eq (HL25.out.lt qLm1) e26
 have qL26_R10 : R10 < L26 := Nat.lt_of_lt_of_eq (HL25.out.lt qLm2) e26
 have qL26_R14 : R14 < L26 := Nat.lt_of_lt_of_eq (HL25.out.lt qLm3) e26
 have qL26_H19 : H19 ≤ L26 := Nat.le_trans (HL25.out.hi (.head _)).2 (Nat.le_of_eq e26)
 have qL26_H13 : H13 ≤ L26 := Nat.le_trans (HL25.out.hi qLm1).2 (Nat.le_of_eq e26)
 have qL26_H12 : H12 ≤ L26 := Nat.le_trans (HL25.out.hi qLm2).2 (Nat.le_of_eq e26)
 have qL26_H9 : H9 ≤ L26 := Nat.le_trans (HL25.out.hi qLm3).2 (Nat.le_of_eq e26)
 have qL26_H6 : H6 ≤ L26 := Nat.le_trans (HL25.out.hi qLm4).2 (Nat.le_of_eq e26)
 have qH26_L26 : L26 ≤ H26 := (by rw [← e26, ← f26]; exact h.size)
 have HL26 := Lib.hid (show Lg w w26 [(R1, (qL0 x a1 N1 c1 a2 N2 c2 a3 N3 c3 a4 N4 c4 a5 N5 c5 x.s), 34), (R7, (qL2 X z6a f6a z6b f6b z6c f6c z6d f6d z6e f6e X.s cd), 50), (R10, (qL0 x y9a N1 N1 y9b N2 N2 y9c N3 N3 y9d N4 N4 y9e N5 N5 x.s), 48), (R14, (qL2 X z13a f13a z13b f13b z13c f13c z13d f13d z13e f13e X.s cd), 50)] [(L26, H26, fun W => NdNew L26 H26 W y26a y26b y26c y26d y26e x), (L19, H19, (fun W => RsNew vlL 2 99 L19 H19 W v19_ l)), (L13, H13, (fun W => NdNew L13 H13 W z13a z13b z13c z13d z13e (markNd X))), (L12, H12, (fun W => RsNew vlL 2 99 L12 H12 W v12_ (marksVl (endNd x) l.length))), (L9, H9, (fun W => NdNew L9 H9 W y9a y9b y9c y9d y9e (markNd x))), (L6, H6, (fun W => NdNew L6 H6 W z6a z6b z6c z6d z6e X))] from HL25.out.made e26 f26 h (by rw [← e26, ← f26]; exact hn.solid))
 clear h hn e26 f26
 go_wp2_with fail
 refine ((toValueS_new b bc l _ (HVI.out.kept HL26.out.below) hvl2)).mono ?_
 rintro e w27 ⟨v27_, rfl, hn, h⟩
 obtain ⟨L27, e27⟩ : ∃ x, w26.heap.size = x := ⟨_, rfl⟩
 obtain ⟨H27, f27⟩ : ∃ x, w27.heap.size = x := ⟨_, rfl⟩
 have qL27_R1 : R1 < L27 := Nat.lt_of_lt_of_eq (HL26.out.lt (.head _)) e27
 have qL27_R7 : R7 < L27 := Nat.lt_of_lt_of_eq (HL26.out.lt qLm1) e27
 have qL27_R10 : R10 < L27 := Nat.lt_of_lt_of_eq (HL26.out.lt qLm2) e27
 have qL27_R14 : R14 < L27 := Nat.lt_of_lt_of_eq (HL26.out.lt qLm3) e27
 have qL27_H26 : H26 ≤ L27 := Nat.le_trans (HL26.out.hi (.head _)).2 (Nat.le_of_eq e27)
 have qL27_H19 : H19 ≤ L27 := Nat.le_trans (HL26.out.hi qLm1).2 (Nat.le_of_eq e27)
 have qL27_H13 : H13 ≤ L27 := Nat.le_trans (HL26.out.hi qLm2).2 (Nat.le_of_eq e27)
 have qL27_H12 : H12 ≤ L27 := Nat.le_trans (HL26.out.hi qLm3).2 (Nat.le_of_eq e27)
 have qL27_H9 : H9 ≤ L27 := Nat.le_trans (HL26.out.hi qLm4).2 (Nat.le_of_eq e27)
 have qL27_H6 : H6 ≤ L27 := Nat.le_trans (HL26.out.hi qLm5).2 (Nat.le_of_eq e27)
 have qH27_L27 : L27 ≤ H27 := (by rw [← e27, ← f27]; exact h.size)
 have HL27 := Lib.hid (show Lg w w27 [(R1, (qL0 x a1 N1 c1 a2 N2 c2 a3 N3 c3 a4 N4 c4 a5 N5 c5 x.s), 34), (R7, (qL2 X z6a f6a z6b f6b z6c f6c z6d f6d z6e f6e X.s cd), 50), (R10, (qL0 x y9a N1 N1 y9b N2 N2 y9c N3 N3 y9d N4 N4 y9e N5 N5 x.s), 48), (R14, (qL2 X z13a f13a z13b f13b z13c f13c z13d f13d z13e f13e X.s cd), 50)] [(L27, H27, (fun W => RsNew vlL 2 99 L27 H27 W v27_ l)), (L26, H26, fun W => NdNew L26 H26 W y26a y26b y26c y26d y26e x), (L19, H19, (fun W => RsNew vlL 2 99 L19 H19 W v19_ l)), (L13, H13, (fun W => NdNew L13 H13 W z13a z13b z13c z13d z13e (markNd X))), (L12, H12, (fun W => RsNew vlL 2 99 L12 H12 W v12_ (marksVl (endNd x) l.length))), (L9, H9, (fun W => NdNew L9 H9 W y9a y9b y9c y9d y9e (markNd x))), (L6, H6, (fun W => NdNew L6 H6 W z6a z6b z6c z6d z6e X))] from HL26.out.made e27 f27 h (by rw [← e27, ← f27]; exact hn.solid))
 clear h hn e27 f27
 go_wp2_with fail
 refine ((HQ _ _ _ _ _ _ (HL27.out.at qLm1).ins _ (HL27.out.at (.head _)).ins).out).mono ?_
 rintro e w28 ⟨z28a, z28b, z28c, z28d, z28e, f28a, f28b, f28c, f28d, f28e, rfl, hn, h⟩
 obtain ⟨L28, e28⟩ : ∃ x, w27.heap.size = x := ⟨_, rfl⟩
 obtain ⟨H28, f28⟩ : ∃ x, w28.heap.size = x := ⟨_, rfl⟩
 have qL28_R1 : R1 < L28 := Nat.lt_of_lt_of_eq (HL27.out.lt (.head _)) e28
 have qL28_R7 : R7 < L28 := Nat.lt_of_lt_of_eq (HL27.out.lt qLm1) e28
 have qL28_R10 : R10 < L28 := Nat.lt_of_lt_of_eq (HL27.out.lt qLm2) e28
 have qL28_R14 : R14 < L28 := Nat.lt_of_lt_of_eq (HL27.out.lt qLm3) e28
 have qL28_H27 : H27 ≤ L28 := Nat.le_trans (HL27.out.hi (.head _)).2 (Nat.le_of_eq e28)
 have qL28_H26 : H26 ≤ L28 := Nat.le_trans (HL27.out.hi qLm1).2 (Nat.le_of_eq e28)
 have qL28_H19 : H19 ≤ L28 := Nat.le_trans (HL27.out.hi qLm2).2 (Nat.le_of_eq e28)
 have qL28_H13 : H13 ≤ L28 := Nat.le_trans (HL27.out.hi qLm3).2 (Nat.le_of_eq e28)
 have qL28_H12 : H12 ≤ L28 := Nat.le_trans (HL27.out.hi qLm4).2 (Nat.le_of_eq e28)
 have qL28_H9 : H9 ≤ L28 := Nat.le_trans (HL27.out.hi qLm5).2 (Nat.le_of_eq e28)
 have qL28_H6 : H6 ≤ L28 := Nat.le_trans (HL27.out.hi (.tail _ qLm5)).2 (Nat.le_of_eq e28)
 have qH28_L28 : L28 ≤ H28 := (by rw [← e28, ← f28]; exact h.size)
 have HL28 := Lib.hid (show Lg w w28 [(R1, (qL0 x a1 N1 c1 a2 N2 c2 a3 N3 c3 a4 N4 c4 a5 N5 c5 x.s), 34), (R7, (qL2 X z6a f6a z6b f6b z6c f6c z6d f6d z6e f6e X.s cd), 50), (R10, (qL0 x y9a N1 N1 y9b N2 N2 y9c N3 N3 y9d N4 N4 y9e N5 N5 x.s), 48), (R14, (qL2 X z13a f13a z13b f13b z13c f13c z13d f13d z13e f13e X.s cd), 50)] [(L28, H28, (fun W => NdNew L28 H28 W z28a z28b z28c z28d z28e X)), (L27, H27, (fun W => RsNew vlL 2 99 L27 H27 W v27_ l)), (L26, H26, fun W => NdNew L26 H26 W y26a y26b y26c y26d y26e x), (L19, H19, (fun W => RsNew vlL 2 99 L19 H19 W v19_ l)), (L13, H13, (fun W => NdNew L13 H13 W z13a z13b z13c z13d z13e (markNd X))), (L12, H12, (fun W => RsNew vlL 2 99 L12 H12 W v12_ (marksVl (endNd x) l.length))), (L9, H9, (fun W => NdNew L9 H9 W y9a y9b y9c y9d y9e (markNd x))), (L6, H6, (fun W => NdNew L6 H6 W z6a z6b z6c z6d z6e X))] from HL27.out.made e28 f28 h (by rw [← e28, ← f28]; exact hn.solid))
 clear h hn e28 f28
 go_wp2_with (first
  | (refine wpList_alloc_h rfl 50 rfl (.agg #[.int .i64 0, .int .i64 0, .int .i64 0, .int .i64 0, .int .i64 0, .int .i64 0, .int .i64 0, .bool false, .int .i64 0, .int .i64 0, .int .i64 0, .slice none 0 0, .slice none 0 0, .slice none 0 0, .slice none 0 0, .slice none 0 0, .int .i64 0, .int .i64 0]) (by kernel_rfl) #[.int .i64 0, .int .i64 0, .int .i64 0, .int .i64 0, .int .i64 0, .int .i64 0, .int .i64 0, .bool false, .int .i64 0, .int .i64 0, .int .i64 0, .slice none 0 0, .slice none 0 0, .slice none 0 0, .slice none 0 0, .slice none 0 0, .int .i64 0, .int .i64 0] rfl ?_; intro w29 R29 e29 g29 b29; have qR29_R1 : R1 < R29 := Nat.lt_of_lt_of_eq (HL28.out.lt (.head _)) e29; have qR29_R7 : R7 < R29 := Nat.lt_of_lt_of_eq (HL28.out.lt qLm1) e29; have qR29_R10 : R10 < R29 := Nat.lt_of_lt_of_eq (HL28.out.lt qLm2) e29; have qR29_R14 : R14 < R29 := Nat.lt_of_lt_of_eq (HL28.out.lt qLm3) e29; have qR29_H28 : H28 ≤ R29 := Nat.le_trans (HL28.out.hi (.head _)).2 (Nat.le_of_eq e29); have qR29_H27 : H27 ≤ R29 := Nat.le_trans (HL28.out.hi qLm1).2 (Nat.le_of_eq e29); have qR29_H26 : H26 ≤ R29 := Nat.le_trans (HL28.out.hi qLm2).2 (Nat.le_of_eq e29); have qR29_H19 : H19 ≤ R29 := Nat.le_trans (HL28.out.hi qLm3).2 (Nat.le_of_eq e29); have qR29_H13 : H13 ≤ R29 := Nat.le_trans (HL28.out.hi qLm4).2 (Nat.le_of_eq e29); have qR29_H12 : H12 ≤ R29 := Nat.le_trans (HL28.out.hi qLm5).2 (Nat.le_of_eq e29); have qR29_H9 : H9 ≤ R29 := Nat.le_trans (HL28.out.hi (.tail _ qLm5)).2 (Nat.le_of_eq e29); have qR29_H6 : H6 ≤ R29 := Nat.le_trans (HL28.out.hi (.tail _ (.tail _ qLm5))).2 (Nat.le_of_eq e29); have HL29 := Lib.hid (show Lg w w29 [(R29, (qL1), 50), (R1, (qL0 x a1 N1 c1 a2 N2 c2 a3 N3 c3 a4 N4 c4 a5 N5 c5 x.s), 34), (R7, (qL2 X z6a f6a z6b f6b z6c f6c z6d f6d z6e f6e X.s cd), 50), (R10, (qL0 x y9a N1 N1 y9b N2 N2 y9c N3 N3 y9d N4 N4 y9e N5 N5 x.s), 48), (R14, (qL2 X z13a f13a z13b f13b z13c f13c z13d f13d z13e f13e X.s cd), 50)] [(L28, H28, (fun W => NdNew L28 H28 W z28a z28b z28c z28d z28e X)), (L27, H27, (fun W => RsNew vlL 2 99 L27 H27 W v27_ l)), (L26, H26, fun W => NdNew L26 H26 W y26a y26b y26c y26d y26e x), (L19, H19, (fun W => RsNew vlL 2 99 L19 H19 W v19_ l)), (L13, H13, (fun W => NdNew L13 H13 W z13a z13b z13c z13d z13e (markNd X))), (L12, H12, (fun W => RsNew vlL 2 99 L12 H12 W v12_ (marksVl (endNd x) l.length))), (L9, H9, (fun W => NdNew L9 H9 W y9a y9b y9c y9d y9e (markNd x))), (L6, H6, (fun W => NdNew L6 H6 W z6a z6b z6c z6d z6e X))] from HL28.out.box e29 g29 b29); clear g29 b29 e29)
  | (refine wpList_put_at rfl 50 (.tmp 15) (.tmp 84) rfl rfl (R29) 0 rfl _ rfl #[.int .i64 X.c.n.u, .int .i64 X.c.n.m, .int .i64 X.c.n.i, .int .i64 X.c.n.f, .int .i64 X.c.n.c, .int .i64 X.c.n.s, .int .i64 X.c.n.y, .bool X.c.n.a, .int .i64 X.c.ad, .int .i64 X.c.st, .int .i64 X.c.lf, .slice z28a X.c.tk.length f28a, .slice z28b X.q.length f28b, .slice z28c X.t.length f28c, .slice z28d X.d.length f28d, .slice z28e X.g.length f28e, .int .i64 X.s, .int .i64 cd] rfl 50 (qL1) (qL2 X z28a f28a z28b f28b z28c f28c z28d f28d z28e f28e X.s cd) (HL29.out.get (.head _)) (by kernel_rfl) (by kernel_rfl) (by kernel_rfl) (by kernel_rfl) ?_; intro w30 g30 o30; have HL30 := Lib.hid (show Lg w w30 [(R29, (qL2 X z28a f28a z28b f28b z28c f28c z28d f28d z28e f28e X.s cd), 50), (R1, (qL0 x a1 N1 c1 a2 N2 c2 a3 N3 c3 a4 N4 c4 a5 N5 c5 x.s), 34), (R7, (qL2 X z6a f6a z6b f6b z6c f6c z6d f6d z6e f6e X.s cd), 50), (R10, (qL0 x y9a N1 N1 y9b N2 N2 y9c N3 N3 y9d N4 N4 y9e N5 N5 x.s), 48), (R14, (qL2 X z13a f13a z13b f13b z13c f13c z13d f13d z13e f13e X.s cd), 50)] [(L28, H28, (fun W => NdNew L28 H28 W z28a z28b z28c z28d z28e X)), (L27, H27, (fun W => RsNew vlL 2 99 L27 H27 W v27_ l)), (L26, H26, fun W => NdNew L26 H26 W y26a y26b y26c y26d y26e x), (L19, H19, (fun W => RsNew vlL 2 99 L19 H19 W v19_ l)), (L13, H13, (fun W => NdNew L13 H13 W z13a z13b z13c z13d z13e (markNd X))), (L12, H12, (fun W => RsNew vlL 2 99 L12 H12 W v12_ (marksVl (endNd x) l.length))), (L9, H9, (fun W => NdNew L9 H9 W y9a y9b y9c y9d y9e (markNd x))), (L6, H6, (fun W => NdNew L6 H6 W z6a z6b z6c z6d z6e X))] from HL29.out.put 0 rfl g30 o30 (qLf ⟨Nat.ne_of_lt qR29_R1, (qLf ⟨Nat.ne_of_lt qR29_R7, (qLf ⟨Nat.ne_of_lt qR29_R10, (qLf ⟨Nat.ne_of_lt qR29_R14, (fun _ h => nomatch h)⟩)⟩)⟩)⟩) (qLf ⟨.inl qR29_H28, (qLf ⟨.inl qR29_H27, (qLf ⟨.inl qR29_H26, (qLf ⟨.inl qR29_H19, (qLf ⟨.inl qR29_H13, (qLf ⟨.inl qR29_H12, (qLf ⟨.inl qR29_H9, (qLf ⟨.inl qR29_H6, (fun _ h => nomatch h)⟩)⟩)⟩)⟩)⟩)⟩)⟩)⟩) rfl); clear g30 o30)
  | (refine wpList_load_at rfl 50 (.tmp 15) rfl (R29) 0 rfl 50 (qL2 X z28a f28a z28b f28b z28c f28c z28d f28d z28e f28e X.s cd) (0, 0) (HL30.out.get (.head _)) [.int .i64 X.c.n.u, .int .i64 X.c.n.m, .int .i64 X.c.n.i, .int .i64 X.c.n.f, .int .i64 X.c.n.c, .int .i64 X.c.n.s, .int .i64 X.c.n.y, .bool X.c.n.a, .int .i64 X.c.ad, .int .i64 X.c.st, .int .i64 X.c.lf, .slice z28a X.c.tk.length f28a, .slice z28b X.q.length f28b, .slice z28c X.t.length f28c, .slice z28d X.d.length f28d, .slice z28e X.g.length f28e, .int .i64 X.s, .int .i64 cd] rfl _ Tryz.underlying50 rfl (by kernel_rfl) ?_)
  | (refine wpList_load_at rfl 50 (.tmp 8) rfl (R7) 0 rfl 50 (qL2 X z6a f6a z6b f6b z6c f6c z6d f6d z6e f6e X.s cd) (0, 0) (HL30.out.get qLm2) [.int .i64 X.c.n.u, .int .i64 X.c.n.m, .int .i64 X.c.n.i, .int .i64 X.c.n.f, .int .i64 X.c.n.c, .int .i64 X.c.n.s, .int .i64 X.c.n.y, .bool X.c.n.a, .int .i64 X.c.ad, .int .i64 X.c.st, .int .i64 X.c.lf, .slice z6a X.c.tk.length f6a, .slice z6b X.q.length f6b, .slice z6c X.t.length f6c, .slice z6d X.d.length f6d, .slice z6e X.g.length f6e, .int .i64 X.s, .int .i64 cd] rfl _ Tryz.underlying50 rfl (by kernel_rfl) ?_))
 refine ((HE _ _ _ _ _ _ _ _ _ _ _ _ _ _ _ _ _ _ _ _ _ (HL30.out.at (.head _)).ins (HL30.out.at (.tail _ (.tail _ qLm5))).ins).out).mono ?_
 rintro e w31 ⟨rfl, h⟩
 have HL31 := Lib.hid (show Lg w w31 [(R29, (qL2 X z28a f28a z28b f28b z28c f28c z28d f28d z28e f28e X.s cd), 50), (R1, (qL0 x a1 N1 c1 a2 N2 c2 a3 N3 c3 a4 N4 c4 a5 N5 c5 x.s), 34), (R7, (qL2 X z6a f6a z6b f6b z6c f6c z6d f6d z6e f6e X.s cd), 50), (R10, (qL0 x y9a N1 N1 y9b N2 N2 y9c N3 N3 y9d N4 N4 y9e N5 N5 x.s), 48), (R14, (qL2 X z13a f13a z13b f13b z13c f13c z13d f13d z13e f13e X.s cd), 50)] [(L28, H28, (fun W => NdNew L28 H28 W z28a z28b z28c z28d z28e X)), (L27, H27, (fun W => RsNew vlL 2 99 L27 H27 W v27_ l)), (L26, H26, fun W => NdNew L26 H26 W y26a y26b y26c y26d y26e x), (L19, H19, (fun W => RsNew vlL 2 99 L19 H19 W v19_ l)), (L13, H13, (fun W => NdNew L13 H13 W z13a z13b z13c z13d z13e (markNd X))), (L12, H12, (fun W => RsNew vlL 2 99 L12 H12 W v12_ (marksVl (endNd x) l.length))), (L9, H9, (fun W => NdNew L9 H9 W y9a y9b y9c y9d y9e (markNd x))), (L6, H6, (fun W => NdNew L6 H6 W z6a z6b z6c z6d z6e X))] from HL30.out.kept h)
 clear h
 go_wp2_with (first
  | (refine wpList_load_at rfl 50 (.tmp 11) rfl (R14) 0 rfl 50 (qL2 X z13a f13a z13b f13b z13c f13c z13d f13d z13e f13e X.s cd) (0, 0) (HL31.out.get qLm4) [.int .i64 X.c.n.u, .int .i64 X.c.n.m, .int .i64 X.c.n.i, .int .i64 X.c.n.f, .int .i64 X.c.n.c, .int .i64 X.c.n.s, .int .i64 X.c.n.y, .bool X.c.n.a, .int .i64 X.c.ad, .int .i64 X.c.st, .int .i64 X.c.lf, .slice z13a X.c.tk.length f13a, .slice z13b X.q.length f13b, .slice z13c X.t.length f13c, .slice z13d X.d.length f13d, .slice z13e X.g.length f13e, .int .i64 X.s, .int .i64 cd] rfl _ Tryz.underlying50 rfl (by kernel_rfl) ?_))
 refine ((HH L13 H13 _ _ _ _ _ _ _ _ _ _ _ (HL31.out.at qLm4)).out).mono ?_
 rintro e w32 ⟨rfl, h⟩
 have HL32 := Lib.hid (show Lg w w32 [(R29, (qL2 X z28a f28a z28b f28b z28c f28c z28d f28d z28e f28e X.s cd), 50), (R1, (qL0 x a1 N1 c1 a2 N2 c2 a3 N3 c3 a4 N4 c4 a5 N5 c5 x.s), 34), (R7, (qL2 X z6a f6a z6b f6b z6c f6c z6d f6d z6e f6e X.s cd), 50), (R10, (qL0 x y9a N1 N1 y9b N2 N2 y9c N3 N3 y9d N4 N4 y9e N5 N5 x.s), 48), (R14, (qL2 X z13a f13a z13b f13b z13c f13c z13d f13d z13e f13e X.s cd), 50)] [(L28, H28, (fun W => NdNew L28 H28 W z28a z28b z28c z28d z28e X)), (L27, H27, (fun W => RsNew vlL 2 99 L27 H27 W v27_ l)), (L26, H26, fun W => NdNew L26 H26 W y26a y26b y26c y26d y26e x), (L19, H19, (fun W => RsNew vlL 2 99 L19 H19 W v19_ l)), (L13, H13, (fun W => NdNew L13 H13 W z13a z13b z13c z13d z13e (markNd X))), (L12, H12, (fun W => RsNew vlL 2 99 L12 H12 W v12_ (marksVl (endNd x) l.length))), (L9, H9, (fun W => NdNew L9 H9 W y9a y9b y9c y9d y9e (markNd x))), (L6, H6, (fun W => NdNew L6 H6 W z6a z6b z6c z6d z6e X))] from HL31.out.kept h)
 clear h
 go_wp2_with fail
 go_ret
 exact ⟨rfl, HL32.out.below⟩

set_option maxRecDepth 100000 in
theorem lifted (os : Os) (started : os.Started) (H : Type) (enc : TypeId × Value → H) :
  ReturnsInHanded {} Tryz.checked os 3 .any (Rows.fnExactNodeSendSpec.pre6 enc Tryz.prog Tryz.f3 Rows.fnExactNodeSendRow.domain false) (Rows.fnExactNodeSendSpec.post enc Tryz.prog Tryz.f3 false true false false) := by
 refine returnsInHanded_of_change (C := Tryz.checked) own started (by kernel_rfl) Tryz.func3
  (ChangeSpec.witness6 (enc := enc) (C := Tryz.checked) false ⟨#[], #[.agg #[.int .i64 0, .int .i64 0, .int .i64 0, .int .i64 0, .int .i64 0, .int .i64 0, .int .i64 0, .bool false, .int .i64 0, .int .i64 0, .int .i64 0, .slice none 0 0, .slice none 0 0, .slice none 0 0, .slice none 0 0, .slice none 0 0, .int .i64 0], .int .i64 0, .slice none 0 0], []⟩ 8 (by kernel_rfl) (by kernel_rfl) (by kernel_rfl) (by kernel_rfl)) ?_
 intro W base args ds gs before hval0 hW hcnd _
 have hval : ∀ (j : Nat) t v, Tryz.f3.params[j]? = some t → args[j]? = some v → Value.okWide Tryz.prog W .any base t v := hval0
 have hW' := hW
 obtain ⟨p, q, hA0, hV, rfl, hfz, hnd⟩ := hW
 have hlt := DataW.TrodAll.lt hA0
 have hA : DataW.TrodAll enc Tryz.prog W 0 (fun _ => true) true Tryz.f3.params.toList args.toList ds p := hA0
 rw [Tryz.params3] at hA hval
 obtain ⟨v0, vs0, d0, ds0, p0, q0, hargs, rfl, rfl, h0, r0⟩ := trodAll_cons hA
 obtain ⟨v1, vs1, d1, ds1, p1, q1, rfl, rfl, rfl, h1, r1⟩ := trodAll_cons r0
 obtain ⟨v2, vs2, d2, ds2, p2, q2, rfl, rfl, rfl, h2, r2⟩ := trodAll_cons r1
 obtain ⟨rfl, rfl, rfl⟩ := trodAll_nil r2
 obtain rfl : args = #[v0, v1, v2] := by cases args; simp_all
 obtain ⟨rfl, rfl⟩ := trodVars_none hV
 have l0 : ∀ x ∈ p0, x.block < W.heap.size := fun x hx => hlt x (by simp [hx])
 have l1 : ∀ x ∈ p1, x.block < W.heap.size := fun x hx => hlt x (by simp [hx])
 have l2 : ∀ x ∈ p2, x.block < W.heap.size := fun x hx => hlt x (by simp [hx])
 have k0 := open_Nd (hval 0 34 v0 rfl rfl) h0
 have k1 := open_I64 Tryz.underlying2 (hval 1 2 v1 rfl rfl) h1
 have k2 := open_Vls (hval 2 35 v2 rfl rfl) h2
 clear hA0 hval0
 simp only [List.append_nil] at hW'
 refine (walk W v0 k0 v1 k1 v2 k2).mono fun e W' ⟨he, hg⟩ => ?_
 subst he
 exact ⟨_, rfl, _, _, _, [], _, [], hW', (trodAll_cons_mk (shut_bool Tryz.underlying4 _) trodAll_mk0), (trodAll_cons_mk (Below.trod (by kernel_rfl) (by kernel_rfl) (of_decide_eq_true (by kernel_rfl)) h0 hg l0) (trodAll_cons_mk (Below.trod (by kernel_rfl) (by kernel_rfl) (of_decide_eq_true (by kernel_rfl)) h1 hg l1) (trodAll_cons_mk (Below.trod (by kernel_rfl) (by kernel_rfl) (of_decide_eq_true (by kernel_rfl)) h2 hg l2) trodAll_mk0))), rfl, hg.frame _, fun h => by cases h⟩

theorem over : Rows.fnExactNodeSendRow.holds Tryz.pinned (OpenSpec.ofChange Rows.fnExactNodeSendSpec) :=
 OpenClaim.holds_of_wide 3 Tryz.f3 rfl rfl rfl rfl rfl rfl rfl ⟨rfl, rfl, rfl, rfl, rfl⟩ rfl rfl rfl rfl rfl (by kernel_rfl) Tryz.func3 (by kernel_rfl)
  (of_decide_eq_true (by kernel_rfl)) (by unfold Func.isWrapper; first | (rw [if_pos (by decide +kernel)]; kernel_rfl) | (rw [if_neg (by decide +kernel)]; exact ⟨rfl, rfl⟩))
  (fun os started H enc _ => lifted os started H enc)

theorem proved : Rows.FnExactNodeSendSaid :=
 over
#print axioms proved
end Go.Proofs.YtioldepgoodipaaGreat.fnExactNodeSend
