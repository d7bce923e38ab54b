/- Several texts in one, each with its own head: what is proved, and of what, stands there. -/
import Derived.Test.YtioldepgoodipaaGreatNsE
import Derived.Test.YtioldepgoodipaaGreatNsA
import Derived.Test.YtioldepgoodipaaGreatNsF
import Derived.Test.YtioldepgoodipaaGreatNsC
namespace Go.Proofs.YtioldepgoodipaaGreat
open Go.RowKit
set_option linter.unusedVariables false

abbrev qG0 (v0 : Nd) (p1 : Option Addr) (p2 : Nat) (p3 : Nat) (p4 : Option Addr) (p5 : Nat) (p6 : Nat) (p7 : Option Addr) (p8 : Nat) (p9 : Nat) (p10 : Option Addr) (p11 : Nat) (p12 : Nat) (p13 : Option Addr) (p14 : Nat) (p15 : Nat) (p16 : Int) : Array Value := #[.int .i64 v0.c.n.u, .int .i64 v0.c.n.m, .int .i64 v0.c.n.i, .int .i64 v0.c.n.f, .int .i64 v0.c.n.c, .int .i64 v0.c.n.s, .int .i64 v0.c.n.y, .bool v0.c.n.a, .int .i64 v0.c.ad, .int .i64 v0.c.st, .int .i64 v0.c.lf, .slice p1 p2 p3, .slice p4 p5 p6, .slice p7 p8 p9, .slice p10 p11 p12, .slice p13 p14 p15, .int .i64 p16]
abbrev qG1 : Array Value := #[.int .i64 0, .int .i64 0, .int .i64 0, .int .i64 0, .int .i64 0, .int .i64 0, .int .i64 0, .bool false, .int .i64 0, .int .i64 0, .int .i64 0, .slice none 0 0, .slice none 0 0, .slice none 0 0, .slice none 0 0, .slice none 0 0, .int .i64 0]
abbrev qG2 (p0 : Int) (p1 : Int) (p2 : Int) (p3 : Int) (p4 : Int) (p5 : Int) (p6 : Int) (p7 : Bool) (p8 : Int) (p9 : Int) (p10 : Int) (p11 : Option Addr) (p12 : Nat) (p13 : Nat) (p14 : Option Addr) (p15 : Nat) (p16 : Nat) (p17 : Option Addr) (p18 : Nat) (p19 : Nat) (p20 : Option Addr) (p21 : Nat) (p22 : Nat) (p23 : Option Addr) (p24 : Nat) (p25 : Nat) (p26 : Int) : Array Value := #[.int .i64 p0, .int .i64 p1, .int .i64 p2, .int .i64 p3, .int .i64 p4, .int .i64 p5, .int .i64 p6, .bool p7, .int .i64 p8, .int .i64 p9, .int .i64 p10, .slice p11 p12 p13, .slice p14 p15 p16, .slice p17 p18 p19, .slice p20 p21 p22, .slice p23 p24 p25, .int .i64 p26]
abbrev qG3 : Array Value := #[.int .i64 0, .int .i64 0, .int .i64 0, .int .i64 0, .int .i64 0, .int .i64 0, .int .i64 0, .bool false, .int .i64 0, .int .i64 0, .int .i64 0, .slice none 0 0, .slice none 0 0, .slice none 0 0, .slice none 0 0, .slice none 0 0, .int .i64 0, .int .i64 0]
abbrev qG4 : Array Value := #[.int .i64 0, .int .i64 0, .int .i64 0, .int .i64 0, .int .i64 0, .int .i64 0, .int .i64 0, .bool false, .int .i64 0, .int .i64 0, .int .i64 0, .slice none 0 0, .slice none 0 0, .slice none 0 0, .slice none 0 0, .slice none 0 0, .int .i64 0, .int .i64 2]
abbrev qG5 : Array Value := #[.int .i64 0, .int .i64 0, .int .i64 0, .int .i64 0, .int .i64 0, .int .i64 0, .int .i64 0, .bool false, .int .i64 0, .int .i64 0, .int .i64 0, .slice none 0 0, .slice none 0 0, .slice none 0 0, .slice none 0 0, .slice none 0 0, .int .i64 0, .int .i64 1]
abbrev qG6 : Array Value := #[.int .i64 0, .int .i64 0, .int .i64 0, .int .i64 0, .int .i64 0, .int .i64 0, .int .i64 0, .bool false, .int .i64 0, .int .i64 0, .int .i64 0, .slice none 0 0, .slice none 0 0, .slice none 0 0, .slice none 0 0, .slice none 0 0, .int .i64 0, .int .i64 10]
abbrev qG7 : Array Value := #[.slice none 0 0, .int .i64 0, .string ByteArray.empty, .int .i64 0]
abbrev qG8 (p0 : Option Addr) (p1 : Nat) (p2 : Nat) : Array Value := #[.slice p0 p1 p2, .int .i64 0, .string ⟨#[]⟩, .int .i64 9]
abbrev qG9 : Array Value := #[.int .i64 0, .int .i64 0, .int .i64 0, .int .i64 0, .int .i64 0, .int .i64 0, .int .i64 0, .bool false, .int .i64 0, .int .i64 0, .int .i64 0, .slice none 0 0, .slice none 0 0, .slice none 0 0, .slice none 0 0, .slice none 0 0, .int .i64 0, .int .i64 9]
abbrev qG10 (p0 : Option Addr) (p1 : Nat) (p2 : Nat) : Array Value := #[.slice p0 p1 p2, .int .i64 0, .string ⟨#[]⟩, .int .i64 0]
abbrev qG11 (v0 : Nd) (p1 : Option Addr) (p2 : Nat) (p3 : Nat) (p4 : Option Addr) (p5 : Nat) (p6 : Nat) (p7 : Option Addr) (p8 : Nat) (p9 : Nat) (p10 : Option Addr) (p11 : Nat) (p12 : Nat) (p13 : Option Addr) (p14 : Nat) (p15 : Nat) (p16 : Int) : Array Value := #[.int .i64 v0.c.n.u, .int .i64 v0.c.n.m, .int .i64 v0.c.n.i, .int .i64 v0.c.n.f, .int .i64 v0.c.n.c, .int .i64 v0.c.n.s, .int .i64 v0.c.n.y, .bool v0.c.n.a, .int .i64 v0.c.ad, .int .i64 v0.c.st, .int .i64 v0.c.lf, .slice p1 p2 p3, .slice p4 p5 p6, .slice p7 p8 p9, .slice p10 p11 p12, .slice p13 p14 p15, .int .i64 p16, .int .i64 0]
theorem qGm3 {α : Type _} {a0 a1 a2 a3 : α} {l : List α} : a3 ∈ a0 :: a1 :: a2 :: a3 :: l := (.tail _ (.tail _ (.tail _ (.head _))))
theorem qGm2 {α : Type _} {a0 a1 a2 : α} {l : List α} : a2 ∈ a0 :: a1 :: a2 :: l := (.tail _ (.tail _ (.head _)))
theorem qGm1 {α : Type _} {a0 a1 : α} {l : List α} : a1 ∈ a0 :: a1 :: l := (.tail _ (.head _))
theorem qGf {α : Type _} {p : α → Prop} {a : α} {l : List α} (h : p a ∧ ∀ x ∈ l, p x) : ∀ x ∈ a :: l, p x := List.forall_mem_cons.2 h
theorem canL_one (x : Int × ByteArray) : ∀ u ∈ canL x, u.oneCell' = true := by
 intro u hu
 simp only [canL, List.mem_cons, List.not_mem_nil, or_false] at hu
 rcases hu with rfl | rfl <;> rfl
theorem ccells_flat (l : List (Int × ByteArray)) : ccells l = l.flatMap canL := by
 induction l with
 | nil => rfl
 | cons y l ih =>
  rw [List.flatMap_cons, ← ih]
  rfl
theorem l03Copy_new (a : Option Addr) (c : Nat) (q : List (Int × ByteArray)) (w : World) (h : CansIn w a q) (hlen : q.length ≤ 1048576) :
  Calls Tryz.prog 91 #[.agg #[.slice a q.length c]] w fun e w' => ∃ y d, e = .returned (.agg #[.slice y q.length d]) ∧ RsNew canL 2 66 w.heap.size w'.heap.size w' y q ∧ Below w.heap.size w w' := by
 refine (l03Copy_any a c q w h hlen).mono ?_
 rintro e w' ⟨y, d, rfl, ho, hs, hb⟩
 rw [ccells_flat] at ho
 obtain ⟨y', d', he, _, hn⟩ := RsNew.of_owns canL_len ho
 injection he with e1 _ e2
 subst e1
 exact ⟨y, d, rfl, hn.wide (by omega) (Nat.le_refl _), hb⟩
set_option maxRecDepth 100000 in
set_option maxHeartbeats 32000000 in
theorem l10Copy_any (x : Nd) (a1 a2 a3 a4 a5 : Option Addr) (c1 c2 c3 c4 c5 : Nat) (w : World) (h : NdIn w a1 a2 a3 a4 a5 x) (hs : NdSmall x) :
  Calls Tryz.prog 38 #[ndV x a1 a2 a3 a4 a5 c1 c2 c3 c4 c5] w fun e w' => ∃ (y1 y2 y3 y4 y5 : Option Addr) (d1 d2 d3 d4 d5 : Nat), e = .returned (ndV x y1 y2 y3 y4 y5 d1 d2 d3 d4 d5) ∧ NdNew w.heap.size w'.heap.size w' y1 y2 y3 y4 y5 x ∧ Below w.heap.size w w' := by
 unfold NdSmall at hs
 obtain ⟨s1, s2, ⟨s3, -⟩, s4, s5, -⟩ := hs
 obtain ⟨i1, i2, i3, i4, i5⟩ := h
 obtain ⟨In, hi, hz0, hz1, hz2⟩ := info_parts NumsTo.info
 have HIn := Lib.hid (And.intro hi (And.intro hz0 (And.intro hz1 hz2)))
 clear hi hz0 hz1 hz2
 obtain ⟨It, hi, hz0, hz1, hz2⟩ := info_parts SesTo.info
 have HIt := Lib.hid (And.intro hi (And.intro hz0 (And.intro hz1 hz2)))
 clear hi hz0 hz1 hz2
 obtain ⟨Id, hi, hz0, hz1, hz2⟩ := info_parts DeviceTo.info
 have HId := Lib.hid (And.intro hi (And.intro hz0 (And.intro hz1 hz2)))
 clear hi hz0 hz1 hz2
 obtain ⟨Ig, hi, hz0, hz1, hz2⟩ := info_parts GotTo.info
 have HIg := Lib.hid (And.intro hi (And.intro hz0 (And.intro hz1 hz2)))
 clear hi hz0 hz1 hz2
 have HJ1 := Lib.hid i1.rs
 have HJ3 := Lib.hid i3
 have HJ4 := Lib.hid i4
 have HJ5 := Lib.hid i5
 have HJ2 := Lib.hid i2
 have HC2 := fun W h => Lib.hid (l03Copy_new a2 c2 x.q W h s2)
 clear i1 i2 i3 i4 i5 s2
 unfold ndV
 go_enter Tryz.func38, Tryz.ntmps38
 go_wp2_with (first
  | (refine wpList_box_h rfl 48 (.tmp 0) rfl #[.int .i64 x.c.n.u, .int .i64 x.c.n.m, .int .i64 x.c.n.i, .int .i64 x.c.n.f, .int .i64 x.c.n.c, .int .i64 x.c.n.s, .int .i64 x.c.n.y, .bool x.c.n.a, .int .i64 x.c.ad, .int .i64 x.c.st, .int .i64 x.c.lf, .slice a1 x.c.tk.length c1, .slice a2 x.q.length c2, .slice a3 x.t.length c3, .slice a4 x.d.length c4, .slice a5 x.g.length c5, .int .i64 x.s] rfl ?_; intro w1 R1 e1 g1 b1; have HL1 := Lib.hid (show Lg w w1 [(R1, (qG0 x a1 x.c.tk.length c1 a2 x.q.length c2 a3 x.t.length c3 a4 x.d.length c4 a5 x.g.length c5 x.s), 48)] [] from (Lg.first w).box e1 g1 b1); clear g1 b1 e1)
  | (refine wpList_alloc_h rfl 48 rfl (.agg #[.int .i64 0, .int .i64 0, .int .i64 0, .int .i64 0, .int .i64 0, .int .i64 0, .int .i64 0, .bool false, .int .i64 0, .int .i64 0, .int .i64 0, .slice none 0 0, .slice none 0 0, .slice none 0 0, .slice none 0 0, .slice none 0 0, .int .i64 0]) (by kernel_rfl) #[.int .i64 0, .int .i64 0, .int .i64 0, .int .i64 0, .int .i64 0, .int .i64 0, .int .i64 0, .bool false, .int .i64 0, .int .i64 0, .int .i64 0, .slice none 0 0, .slice none 0 0, .slice none 0 0, .slice none 0 0, .slice none 0 0, .int .i64 0] rfl ?_; intro w2 R2 e2 g2 b2; have qR2_R1 : R1 < R2 := Nat.lt_of_lt_of_eq (HL1.out.lt (.head _)) e2; have HL2 := Lib.hid (show Lg w w2 [(R2, (qG1), 48), (R1, (qG0 x a1 x.c.tk.length c1 a2 x.q.length c2 a3 x.t.length c3 a4 x.d.length c4 a5 x.g.length c5 x.s), 48)] [] from HL1.out.box e2 g2 b2); clear g2 b2 e2)
  | (refine wpList_lit0 nC 1 rfl 24 rfl 2 In Tryz.underlying24 HIn.out.1 ?_; intro w3 G3 e3 hok3 b3; have HO3 := Lib.hid hok3; have HB3 := Lib.hid b3; have HE3 := Lib.hid e3; have HL3 := Lib.hid (show Lg w w3 [(R2, (qG1), 48), (R1, (qG0 x a1 x.c.tk.length c1 a2 x.q.length c2 a3 x.t.length c3 a4 x.d.length c4 a5 x.g.length c5 x.s), 48)] [] from HL2.out.kept b3); clear hok3 b3 e3)
  | (refine wpList_load_one rfl 24 (.tmp 5) rfl (R1) 11 rfl 48 (qG0 x a1 x.c.tk.length c1 a2 x.q.length c2 a3 x.t.length c3 a4 x.d.length c4 a5 x.g.length c5 x.s) (0, 0) (HL3.out.get qGm1) (.slice a1 x.c.tk.length c1) rfl _ Tryz.underlying24 rfl (by kernel_rfl) ?_)
  | (at_builtin; refine wpList_append_rs nC_len nC_one rfl (.tmp 3) (.tmp 6) 24 rfl 2 In _ 8 Tryz.underlying24 HIn.out.1 HIn.out.2.1 HIn.out.2.2.1 HIn.out.2.2.2 rfl (by decide) G3 w3.heap.size _ [] rfl HO3.out a1 c1 x.c.tk rfl (HJ1.out.kept HL3.out.below) (by simp only [List.length_nil]; unfold maxLen; omega) (by simp only [List.length_nil]; omega) (by rw [← HE3.out]; exact HB3.out.size) ?_; intro v4 w4 hk4 ho4; rw [List.nil_append] at hk4; obtain ⟨y4, d4, rfl, -, hn4⟩ := hk4.new nC_len; have HE := HE3.out; obtain ⟨H4, f4⟩ : ∃ x, w4.heap.size = x := ⟨_, rfl⟩; have qG3_R2 : R2 < G3 := Nat.lt_of_lt_of_eq (HL2.out.lt (.head _)) HE; have qG3_R1 : R1 < G3 := Nat.lt_of_lt_of_eq (HL2.out.lt qGm1) HE; have qH4_G3 : G3 ≤ H4 := (by rw [← HE, ← f4]; exact Nat.le_trans HB3.out.size ho4.size); have bb4 : Below w2.heap.size w2 w4 := ho4.below HB3.out (Nat.le_of_eq HE) HB3.out.size; rw [f4] at hn4; have HL4 := Lib.hid (show Lg w w4 [(R2, (qG1), 48), (R1, (qG0 x a1 x.c.tk.length c1 a2 x.q.length c2 a3 x.t.length c3 a4 x.d.length c4 a5 x.g.length c5 x.s), 48)] [(G3, H4, (fun W => RsNew nC 1 2 G3 H4 W y4 x.c.tk))] from HL2.out.made HE f4 bb4 hn4.solid); clear hk4 hn4 ho4 f4 HE bb4)
  | (refine wpList_put_at rfl 24 (.tmp 9) (.tmp 7) rfl rfl (R1) 11 rfl (.slice y4 x.c.tk.length d4) rfl #[.slice y4 x.c.tk.length d4] rfl 48 (qG0 x a1 x.c.tk.length c1 a2 x.q.length c2 a3 x.t.length c3 a4 x.d.length c4 a5 x.g.length c5 x.s) (qG0 x y4 x.c.tk.length d4 a2 x.q.length c2 a3 x.t.length c3 a4 x.d.length c4 a5 x.g.length c5 x.s) (HL4.out.get qGm1) (by kernel_rfl) (by kernel_rfl) (by kernel_rfl) (by kernel_rfl) ?_; intro w5 g5 o5; have HL5 := Lib.hid (show Lg w w5 [(R2, (qG1), 48), (R1, (qG0 x y4 x.c.tk.length d4 a2 x.q.length c2 a3 x.t.length c3 a4 x.d.length c4 a5 x.g.length c5 x.s), 48)] [(G3, H4, (fun W => RsNew nC 1 2 G3 H4 W y4 x.c.tk))] from HL4.out.put 1 rfl g5 o5 (qGf ⟨Nat.ne_of_gt qR2_R1, (fun _ h => nomatch h)⟩) (qGf ⟨.inr qG3_R1, (fun _ h => nomatch h)⟩) rfl); clear g5 o5)
  | (refine wpList_load_at rfl 43 (.tmp 10) rfl (R1) 12 rfl 48 (qG0 x y4 x.c.tk.length d4 a2 x.q.length c2 a3 x.t.length c3 a4 x.d.length c4 a5 x.g.length c5 x.s) (0, 0) (HL5.out.get qGm1) [.slice a2 x.q.length c2] rfl _ Tryz.underlying43 rfl (by kernel_rfl) ?_))
 refine ((HC2 _ (HJ2.out.kept HL5.out.below)).out).mono ?_
 rintro e w6 ⟨y6, d6, rfl, hn, h⟩
 obtain ⟨L6, e6⟩ : ∃ x, w5.heap.size = x := ⟨_, rfl⟩
 obtain ⟨H6, f6⟩ : ∃ x, w6.heap.size = x := ⟨_, rfl⟩
 have qL6_R2 : R2 < L6 := Nat.lt_of_lt_of_eq (HL5.out.lt (.head _)) e6
 have qL6_R1 : R1 < L6 := Nat.lt_of_lt_of_eq (HL5.out.lt qGm1) e6
 have qL6_H4 : H4 ≤ L6 := Nat.le_trans (HL5.out.hi (.head _)).2 (Nat.le_of_eq e6)
 have qH6_L6 : L6 ≤ H6 := (by rw [← e6, ← f6]; exact h.size)
 have HL6 := Lib.hid (show Lg w w6 [(R2, (qG1), 48), (R1, (qG0 x y4 x.c.tk.length d4 a2 x.q.length c2 a3 x.t.length c3 a4 x.d.length c4 a5 x.g.length c5 x.s), 48)] [(L6, H6, (fun W => RsNew canL 2 66 L6 H6 W y6 x.q)), (G3, H4, (fun W => RsNew nC 1 2 G3 H4 W y4 x.c.tk))] from HL5.out.made e6 f6 h (by rw [← e6, ← f6]; exact hn.solid))
 clear h hn e6 f6
 go_wp2_with (first
  | (refine wpList_put_at rfl 43 (.tmp 13) (.tmp 12) rfl rfl (R1) 12 rfl (.agg #[.slice y6 x.q.length d6]) rfl #[.slice y6 x.q.length d6] rfl 48 (qG0 x y4 x.c.tk.length d4 a2 x.q.length c2 a3 x.t.length c3 a4 x.d.length c4 a5 x.g.length c5 x.s) (qG0 x y4 x.c.tk.length d4 y6 x.q.length d6 a3 x.t.length c3 a4 x.d.length c4 a5 x.g.length c5 x.s) (HL6.out.get qGm1) (by kernel_rfl) (by kernel_rfl) (by kernel_rfl) (by kernel_rfl) ?_; intro w7 g7 o7; have HL7 := Lib.hid (show Lg w w7 [(R2, (qG1), 48), (R1, (qG0 x y4 x.c.tk.length d4 y6 x.q.length d6 a3 x.t.length c3 a4 x.d.length c4 a5 x.g.length c5 x.s), 48)] [(L6, H6, (fun W => RsNew canL 2 66 L6 H6 W y6 x.q)), (G3, H4, (fun W => RsNew nC 1 2 G3 H4 W y4 x.c.tk))] from HL6.out.put 1 rfl g7 o7 (qGf ⟨Nat.ne_of_gt qR2_R1, (fun _ h => nomatch h)⟩) (qGf ⟨.inr qL6_R1, (qGf ⟨.inr qG3_R1, (fun _ h => nomatch h)⟩)⟩) rfl); clear g7 o7)
  | (refine wpList_lit0 seL 7 rfl 44 rfl 159 It Tryz.underlying44 HIt.out.1 ?_; intro w8 G8 e8 hok8 b8; have HO8 := Lib.hid hok8; have HB8 := Lib.hid b8; have HE8 := Lib.hid e8; have HL8 := Lib.hid (show Lg w w8 [(R2, (qG1), 48), (R1, (qG0 x y4 x.c.tk.length d4 y6 x.q.length d6 a3 x.t.length c3 a4 x.d.length c4 a5 x.g.length c5 x.s), 48)] [(L6, H6, (fun W => RsNew canL 2 66 L6 H6 W y6 x.q)), (G3, H4, (fun W => RsNew nC 1 2 G3 H4 W y4 x.c.tk))] from HL7.out.kept b8); clear hok8 b8 e8)
  | (refine wpList_load_one rfl 44 (.tmp 15) rfl (R1) 13 rfl 48 (qG0 x y4 x.c.tk.length d4 y6 x.q.length d6 a3 x.t.length c3 a4 x.d.length c4 a5 x.g.length c5 x.s) (0, 0) (HL8.out.get qGm1) (.slice a3 x.t.length c3) rfl _ Tryz.underlying44 rfl (by kernel_rfl) ?_)
  | (at_builtin; refine wpList_append_rs seL_len seL_one rfl (.tmp 14) (.tmp 16) 44 rfl 159 It _ 64 Tryz.underlying44 HIt.out.1 HIt.out.2.1 HIt.out.2.2.1 HIt.out.2.2.2 rfl (by decide) G8 w8.heap.size _ [] rfl HO8.out a3 c3 x.t rfl (HJ3.out.kept HL8.out.below) (by simp only [List.length_nil]; unfold maxLen; omega) (by simp only [List.length_nil]; omega) (by rw [← HE8.out]; exact HB8.out.size) ?_; intro v9 w9 hk9 ho9; rw [List.nil_append] at hk9; obtain ⟨y9, d9, rfl, -, hn9⟩ := hk9.new seL_len; have HE := HE8.out; obtain ⟨H9, f9⟩ : ∃ x, w9.heap.size = x := ⟨_, rfl⟩; have qG8_R2 : R2 < G8 := Nat.lt_of_lt_of_eq (HL7.out.lt (.head _)) HE; have qG8_R1 : R1 < G8 := Nat.lt_of_lt_of_eq (HL7.out.lt qGm1) HE; have qG8_H6 : H6 ≤ G8 := Nat.le_trans (HL7.out.hi (.head _)).2 (Nat.le_of_eq HE); have qG8_H4 : H4 ≤ G8 := Nat.le_trans (HL7.out.hi qGm1).2 (Nat.le_of_eq HE); have qH9_G8 : G8 ≤ H9 := (by rw [← HE, ← f9]; exact Nat.le_trans HB8.out.size ho9.size); have bb9 : Below w7.heap.size w7 w9 := ho9.below HB8.out (Nat.le_of_eq HE) HB8.out.size; rw [f9] at hn9; have HL9 := Lib.hid (show Lg w w9 [(R2, (qG1), 48), (R1, (qG0 x y4 x.c.tk.length d4 y6 x.q.length d6 a3 x.t.length c3 a4 x.d.length c4 a5 x.g.length c5 x.s), 48)] [(G8, H9, (fun W => RsNew seL 7 159 G8 H9 W y9 x.t)), (L6, H6, (fun W => RsNew canL 2 66 L6 H6 W y6 x.q)), (G3, H4, (fun W => RsNew nC 1 2 G3 H4 W y4 x.c.tk))] from HL7.out.made HE f9 bb9 hn9.solid); clear hk9 hn9 ho9 f9 HE bb9)
  | (refine wpList_put_at rfl 44 (.tmp 18) (.tmp 17) rfl rfl (R1) 13 rfl (.slice y9 x.t.length d9) rfl #[.slice y9 x.t.length d9] rfl 48 (qG0 x y4 x.c.tk.length d4 y6 x.q.length d6 a3 x.t.length c3 a4 x.d.length c4 a5 x.g.length c5 x.s) (qG0 x y4 x.c.tk.length d4 y6 x.q.length d6 y9 x.t.length d9 a4 x.d.length c4 a5 x.g.length c5 x.s) (HL9.out.get qGm1) (by kernel_rfl) (by kernel_rfl) (by kernel_rfl) (by kernel_rfl) ?_; intro w10 g10 o10; have HL10 := Lib.hid (show Lg w w10 [(R2, (qG1), 48), (R1, (qG0 x y4 x.c.tk.length d4 y6 x.q.length d6 y9 x.t.length d9 a4 x.d.length c4 a5 x.g.length c5 x.s), 48)] [(G8, H9, (fun W => RsNew seL 7 159 G8 H9 W y9 x.t)), (L6, H6, (fun W => RsNew canL 2 66 L6 H6 W y6 x.q)), (G3, H4, (fun W => RsNew nC 1 2 G3 H4 W y4 x.c.tk))] from HL9.out.put 1 rfl g10 o10 (qGf ⟨Nat.ne_of_gt qR2_R1, (fun _ h => nomatch h)⟩) (qGf ⟨.inr qG8_R1, (qGf ⟨.inr qL6_R1, (qGf ⟨.inr qG3_R1, (fun _ h => nomatch h)⟩)⟩)⟩) rfl); clear g10 o10)
  | (refine wpList_lit0 dvL 10 rfl 45 rfl 162 Id Tryz.underlying45 HId.out.1 ?_; intro w11 G11 e11 hok11 b11; have HO11 := Lib.hid hok11; have HB11 := Lib.hid b11; have HE11 := Lib.hid e11; have HL11 := Lib.hid (show Lg w w11 [(R2, (qG1), 48), (R1, (qG0 x y4 x.c.tk.length d4 y6 x.q.length d6 y9 x.t.length d9 a4 x.d.length c4 a5 x.g.length c5 x.s), 48)] [(G8, H9, (fun W => RsNew seL 7 159 G8 H9 W y9 x.t)), (L6, H6, (fun W => RsNew canL 2 66 L6 H6 W y6 x.q)), (G3, H4, (fun W => RsNew nC 1 2 G3 H4 W y4 x.c.tk))] from HL10.out.kept b11); clear hok11 b11 e11)
  | (refine wpList_load_one rfl 45 (.tmp 20) rfl (R1) 14 rfl 48 (qG0 x y4 x.c.tk.length d4 y6 x.q.length d6 y9 x.t.length d9 a4 x.d.length c4 a5 x.g.length c5 x.s) (0, 0) (HL11.out.get qGm1) (.slice a4 x.d.length c4) rfl _ Tryz.underlying45 rfl (by kernel_rfl) ?_)
  | (at_builtin; refine wpList_append_rs dvL_len dvL_one rfl (.tmp 19) (.tmp 21) 45 rfl 162 Id _ 80 Tryz.underlying45 HId.out.1 HId.out.2.1 HId.out.2.2.1 HId.out.2.2.2 rfl (by decide) G11 w11.heap.size _ [] rfl HO11.out a4 c4 x.d rfl (HJ4.out.kept HL11.out.below) (by simp only [List.length_nil]; unfold maxLen; omega) (by simp only [List.length_nil]; omega) (by rw [← HE11.out]; exact HB11.out.size) ?_; intro v12 w12 hk12 ho12; rw [List.nil_append] at hk12; obtain ⟨y12, d12, rfl, -, hn12⟩ := hk12.new dvL_len; have HE := HE11.out; obtain ⟨H12, f12⟩ : ∃ x, w12.heap.size = x := ⟨_, rfl⟩; have qG11_R2 : R2 < G11 := Nat.lt_of_lt_of_eq (HL10.out.lt (.head _)) HE; have qG11_R1 : R1 < G11 := Nat.lt_of_lt_of_eq (HL10.out.lt qGm1) HE; have qG11_H9 : H9 ≤ G11 := Nat.le_trans (HL10.out.hi (.head _)).2 (Nat.le_of_eq HE); have qG11_H6 : H6 ≤ G11 := Nat.le_trans (HL10.out.hi qGm1).2 (Nat.le_of_eq HE); have qG11_H4 : H4 ≤ G11 := Nat.le_trans (HL10.out.hi qGm2).2 (Nat.le_of_eq HE); have qH12_G11 : G11 ≤ H12 := (by rw [← HE, ← f12]; exact Nat.le_trans HB11.out.size ho12.size); have bb12 : Below w10.heap.size w10 w12 := ho12.below HB11.out (Nat.le_of_eq HE) HB11.out.size; rw [f12] at hn12; have HL12 := Lib.hid (show Lg w w12 [(R2, (qG1), 48), (R1, (qG0 x y4 x.c.tk.length d4 y6 x.q.length d6 y9 x.t.length d9 a4 x.d.length c4 a5 x.g.length c5 x.s), 48)] [(G11, H12, (fun W => RsNew dvL 10 162 G11 H12 W y12 x.d)), (G8, H9, (fun W => RsNew seL 7 159 G8 H9 W y9 x.t)), (L6, H6, (fun W => RsNew canL 2 66 L6 H6 W y6 x.q)), (G3, H4, (fun W => RsNew nC 1 2 G3 H4 W y4 x.c.tk))] from HL10.out.made HE f12 bb12 hn12.solid); clear hk12 hn12 ho12 f12 HE bb12)
  | (refine wpList_put_at rfl 45 (.tmp 23) (.tmp 22) rfl rfl (R1) 14 rfl (.slice y12 x.d.length d12) rfl #[.slice y12 x.d.length d12] rfl 48 (qG0 x y4 x.c.tk.length d4 y6 x.q.length d6 y9 x.t.length d9 a4 x.d.length c4 a5 x.g.length c5 x.s) (qG0 x y4 x.c.tk.length d4 y6 x.q.length d6 y9 x.t.length d9 y12 x.d.length d12 a5 x.g.length c5 x.s) (HL12.out.get qGm1) (by kernel_rfl) (by kernel_rfl) (by kernel_rfl) (by kernel_rfl) ?_; intro w13 g13 o13; have HL13 := Lib.hid (show Lg w w13 [(R2, (qG1), 48), (R1, (qG0 x y4 x.c.tk.length d4 y6 x.q.length d6 y9 x.t.length d9 y12 x.d.length d12 a5 x.g.length c5 x.s), 48)] [(G11, H12, (fun W => RsNew dvL 10 162 G11 H12 W y12 x.d)), (G8, H9, (fun W => RsNew seL 7 159 G8 H9 W y9 x.t)), (L6, H6, (fun W => RsNew canL 2 66 L6 H6 W y6 x.q)), (G3, H4, (fun W => RsNew nC 1 2 G3 H4 W y4 x.c.tk))] from HL12.out.put 1 rfl g13 o13 (qGf ⟨Nat.ne_of_gt qR2_R1, (fun _ h => nomatch h)⟩) (qGf ⟨.inr qG11_R1, (qGf ⟨.inr qG8_R1, (qGf ⟨.inr qL6_R1, (qGf ⟨.inr qG3_R1, (fun _ h => nomatch h)⟩)⟩)⟩)⟩) rfl); clear g13 o13)
  | (refine wpList_lit0 gtL 3 rfl 46 rfl 144 Ig Tryz.underlying46 HIg.out.1 ?_; intro w14 G14 e14 hok14 b14; have HO14 := Lib.hid hok14; have HB14 := Lib.hid b14; have HE14 := Lib.hid e14; have HL14 := Lib.hid (show Lg w w14 [(R2, (qG1), 48), (R1, (qG0 x y4 x.c.tk.length d4 y6 x.q.length d6 y9 x.t.length d9 y12 x.d.length d12 a5 x.g.length c5 x.s), 48)] [(G11, H12, (fun W => RsNew dvL 10 162 G11 H12 W y12 x.d)), (G8, H9, (fun W => RsNew seL 7 159 G8 H9 W y9 x.t)), (L6, H6, (fun W => RsNew canL 2 66 L6 H6 W y6 x.q)), (G3, H4, (fun W => RsNew nC 1 2 G3 H4 W y4 x.c.tk))] from HL13.out.kept b14); clear hok14 b14 e14)
  | (refine wpList_load_one rfl 46 (.tmp 25) rfl (R1) 15 rfl 48 (qG0 x y4 x.c.tk.length d4 y6 x.q.length d6 y9 x.t.length d9 y12 x.d.length d12 a5 x.g.length c5 x.s) (0, 0) (HL14.out.get qGm1) (.slice a5 x.g.length c5) rfl _ Tryz.underlying46 rfl (by kernel_rfl) ?_)
  | (at_builtin; refine wpList_append_rs gtL_len gtL_one rfl (.tmp 24) (.tmp 26) 46 rfl 144 Ig _ 32 Tryz.underlying46 HIg.out.1 HIg.out.2.1 HIg.out.2.2.1 HIg.out.2.2.2 rfl (by decide) G14 w14.heap.size _ [] rfl HO14.out a5 c5 x.g rfl (HJ5.out.kept HL14.out.below) (by simp only [List.length_nil]; unfold maxLen; omega) (by simp only [List.length_nil]; omega) (by rw [← HE14.out]; exact HB14.out.size) ?_; intro v15 w15 hk15 ho15; rw [List.nil_append] at hk15; obtain ⟨y15, d15, rfl, -, hn15⟩ := hk15.new gtL_len; have HE := HE14.out; obtain ⟨H15, f15⟩ : ∃ x, w15.heap.size = x := ⟨_, rfl⟩; have qG14_R2 : R2 < G14 := Nat.lt_of_lt_of_eq (HL13.out.lt (.head _)) HE; have qG14_R1 : R1 < G14 := Nat.lt_of_lt_of_eq (HL13.out.lt qGm1) HE; have qG14_H12 : H12 ≤ G14 := Nat.le_trans (HL13.out.hi (.head _)).2 (Nat.le_of_eq HE); have qG14_H9 : H9 ≤ G14 := Nat.le_trans (HL13.out.hi qGm1).2 (Nat.le_of_eq HE); have qG14_H6 : H6 ≤ G14 := Nat.le_trans (HL13.out.hi qGm2).2 (Nat.le_of_eq HE); have qG14_H4 : H4 ≤ G14 := Nat.le_trans (HL13.out.hi qGm3).2 (Nat.le_of_eq HE); have qH15_G14 : G14 ≤ H15 := (by rw [← HE, ← f15]; exact Nat.le_trans HB14.out.size ho15.size); have bb15 : Below w13.heap.size w13 w15 := ho15.below HB14.out (Nat.le_of_eq HE) HB14.out.size; rw [f15] at hn15; have HL15 := Lib.hid (show Lg w w15 [(R2, (qG1), 48), (R1, (qG0 x y4 x.c.tk.length d4 y6 x.q.length d6 y9 x.t.length d9 y12 x.d.length d12 a5 x.g.length c5 x.s), 48)] [(G14, H15, (fun W => RsNew gtL 3 144 G14 H15 W y15 x.g)), (G11, H12, (fun W => RsNew dvL 10 162 G11 H12 W y12 x.d)), (G8, H9, (fun W => RsNew seL 7 159 G8 H9 W y9 x.t)), (L6, H6, (fun W => RsNew canL 2 66 L6 H6 W y6 x.q)), (G3, H4, (fun W => RsNew nC 1 2 G3 H4 W y4 x.c.tk))] from HL13.out.made HE f15 bb15 hn15.solid); clear hk15 hn15 ho15 f15 HE bb15)
  | (refine wpList_put_at rfl 46 (.tmp 28) (.tmp 27) rfl rfl (R1) 15 rfl (.slice y15 x.g.length d15) rfl #[.slice y15 x.g.length d15] rfl 48 (qG0 x y4 x.c.tk.length d4 y6 x.q.length d6 y9 x.t.length d9 y12 x.d.length d12 a5 x.g.length c5 x.s) (qG0 x y4 x.c.tk.length d4 y6 x.q.length d6 y9 x.t.length d9 y12 x.d.length d12 y15 x.g.length d15 x.s) (HL15.out.get qGm1) (by kernel_rfl) (by kernel_rfl) (by kernel_rfl) (by kernel_rfl) ?_; intro w16 g16 o16; have HL16 := Lib.hid (show Lg w w16 [(R2, (qG1), 48), (R1, (qG0 x y4 x.c.tk.length d4 y6 x.q.length d6 y9 x.t.length d9 y12 x.d.length d12 y15 x.g.length d15 x.s), 48)] [(G14, H15, (fun W => RsNew gtL 3 144 G14 H15 W y15 x.g)), (G11, H12, (fun W => RsNew dvL 10 162 G11 H12 W y12 x.d)), (G8, H9, (fun W => RsNew seL 7 159 G8 H9 W y9 x.t)), (L6, H6, (fun W => RsNew canL 2 66 L6 H6 W y6 x.q)), (G3, H4, (fun W => RsNew nC 1 2 G3 H4 W y4 x.c.tk))] from HL15.out.put 1 rfl g16 o16 (qGf ⟨Nat.ne_of_gt qR2_R1, (fun _ h => nomatch h)⟩) (qGf ⟨.inr qG14_R1, (qGf ⟨.inr qG11_R1, (qGf ⟨.inr qG8_R1, (qGf ⟨.inr qL6_R1, (qGf ⟨.inr qG3_R1, (fun _ h => nomatch h)⟩)⟩)⟩)⟩)⟩) rfl); clear g16 o16)
  | (refine wpList_load_at rfl 48 (.tmp 1) rfl (R1) 0 rfl 48 (qG0 x y4 x.c.tk.length d4 y6 x.q.length d6 y9 x.t.length d9 y12 x.d.length d12 y15 x.g.length d15 x.s) (0, 0) (HL16.out.get qGm1) [.int .i64 x.c.n.u, .int .i64 x.c.n.m, .int .i64 x.c.n.i, .int .i64 x.c.n.f, .int .i64 x.c.n.c, .int .i64 x.c.n.s, .int .i64 x.c.n.y, .bool x.c.n.a, .int .i64 x.c.ad, .int .i64 x.c.st, .int .i64 x.c.lf, .slice y4 x.c.tk.length d4, .slice y6 x.q.length d6, .slice y9 x.t.length d9, .slice y12 x.d.length d12, .slice y15 x.g.length d15, .int .i64 x.s] rfl _ Tryz.underlying48 rfl (by kernel_rfl) ?_)
  | (refine wpList_put_at rfl 48 (.tmp 2) (.tmp 29) rfl rfl (R2) 0 rfl _ rfl #[.int .i64 x.c.n.u, .int .i64 x.c.n.m, .int .i64 x.c.n.i, .int .i64 x.c.n.f, .int .i64 x.c.n.c, .int .i64 x.c.n.s, .int .i64 x.c.n.y, .bool x.c.n.a, .int .i64 x.c.ad, .int .i64 x.c.st, .int .i64 x.c.lf, .slice y4 x.c.tk.length d4, .slice y6 x.q.length d6, .slice y9 x.t.length d9, .slice y12 x.d.length d12, .slice y15 x.g.length d15, .int .i64 x.s] rfl 48 (qG1) (qG0 x y4 x.c.tk.length d4 y6 x.q.length d6 y9 x.t.length d9 y12 x.d.length d12 y15 x.g.length d15 x.s) (HL16.out.get (.head _)) (by kernel_rfl) (by kernel_rfl) (by kernel_rfl) (by kernel_rfl) ?_; intro w17 g17 o17; have HL17 := Lib.hid (show Lg w w17 [(R2, (qG0 x y4 x.c.tk.length d4 y6 x.q.length d6 y9 x.t.length d9 y12 x.d.length d12 y15 x.g.length d15 x.s), 48), (R1, (qG0 x y4 x.c.tk.length d4 y6 x.q.length d6 y9 x.t.length d9 y12 x.d.length d12 y15 x.g.length d15 x.s), 48)] [(G14, H15, (fun W => RsNew gtL 3 144 G14 H15 W y15 x.g)), (G11, H12, (fun W => RsNew dvL 10 162 G11 H12 W y12 x.d)), (G8, H9, (fun W => RsNew seL 7 159 G8 H9 W y9 x.t)), (L6, H6, (fun W => RsNew canL 2 66 L6 H6 W y6 x.q)), (G3, H4, (fun W => RsNew nC 1 2 G3 H4 W y4 x.c.tk))] from HL16.out.put 0 rfl g17 o17 (qGf ⟨Nat.ne_of_lt qR2_R1, (fun _ h => nomatch h)⟩) (qGf ⟨.inr qG14_R2, (qGf ⟨.inr qG11_R2, (qGf ⟨.inr qG8_R2, (qGf ⟨.inr qL6_R2, (qGf ⟨.inr qG3_R2, (fun _ h => nomatch h)⟩)⟩)⟩)⟩)⟩) rfl); clear g17 o17))
 exact bodyPost_ret (results_cell_row (p := 2) (ty := 48) (by kernel_rfl) _ _ (R2) 48 _ (0, 0) _ rfl (HL17.out.get (.head _)) Tryz.underlying48 rfl (by kernel_rfl)) rfl ⟨y4, y6, y9, y12, y15, d4, d6, d9, d12, d15, rfl, ⟨G3, H4, L6, H6, G8, H9, G11, H12, G14, H15, ⟨HL17.out.lo (.tail _ qGm3), (HL17.out.hi (.tail _ qGm3)).1, (HL17.out.hi (.tail _ qGm3)).2⟩, ⟨HL17.out.lo qGm3, (HL17.out.hi qGm3).1, (HL17.out.hi qGm3).2⟩, ⟨HL17.out.lo qGm2, (HL17.out.hi qGm2).1, (HL17.out.hi qGm2).2⟩, ⟨HL17.out.lo qGm1, (HL17.out.hi qGm1).1, (HL17.out.hi qGm1).2⟩, ⟨HL17.out.lo (.head _), (HL17.out.hi (.head _)).1, (HL17.out.hi (.head _)).2⟩, .inl qL6_H4, .inl qG8_H4, .inl qG11_H4, .inl qG14_H4, .inl qG8_H6, .inl qG11_H6, .inl qG14_H6, .inl qG11_H9, .inl qG14_H9, .inl qG14_H12, (HL17.out.at (.tail _ qGm3)).nums, (HL17.out.at qGm3).cans, (HL17.out.at qGm2), (HL17.out.at qGm1), (HL17.out.at (.head _))⟩, HL17.out.below⟩
end Go.Proofs.YtioldepgoodipaaGreat
namespace Go.Proofs.YtioldepgoodipaaGreat
open Go.RowKit
set_option linter.unusedVariables false

set_option maxRecDepth 100000 in
set_option maxHeartbeats 16000000 in
theorem specNodeRight_any (x : Nd) (a1 a2 a3 a4 a5 : Option Addr) (c1 c2 c3 c4 c5 : Nat) (w : World) (h : NdIn w a1 a2 a3 a4 a5 x) (hok : NdOk x) (hs : NdSmall x) :
  Calls Tryz.prog 31 #[ndV x a1 a2 a3 a4 a5 c1 c2 c3 c4 c5] w fun e w' => e = .returned (.bool (ndB x)) ∧ Below w.heap.size w w' := by
 have HSm := hs
 unfold NdSmall at hs
 unfold NdOk at hok
 have HB := Lib.hid (show ndB x = (clB x.c && (qRightB x.q && (tabB x.t && (dvsB x.d && (decide (x.g.length ≤ 8) && (inB 0 7 x.s && allR (fun i => gtB (gtAt x.g i)) x.g.length)))))) from rfl)
 generalize ndB x = RES at *
 obtain ⟨⟨⟨n0, n1, n2, n3, n4, n5, n6, n7⟩, ad, st, lf, tk⟩, q, t, d, g, sq⟩ := x
 obtain ⟨i1, i2, i3, i4, i5⟩ := h
 obtain ⟨s1, s2, ⟨s3, -⟩, s4, s5, -⟩ := hs
 obtain ⟨o1, o2, o3⟩ := hok
 unfold ndV
 dsimp only at *
 have HI1 := Lib.hid i1
 have HI2 := Lib.hid i2
 have HI3 := Lib.hid i3
 have HI4 := Lib.hid i4
 have HI5 := Lib.hid i5
 have HO := Lib.hid o3
 have HC1 := fun W h => Lib.hid (specClaimRight_any ⟨n0, n1, n2, n3, n4, n5, n6, n7⟩ ad st lf a1 c1 tk W h s1)
 have HC2 := fun W h => Lib.hid (specQueueRight_any a2 c2 q W h o1 s2)
 have HC3 := fun W h => Lib.hid (specTable_any a3 c3 t W h o2 (by unfold maxLen; omega))
 have HC4 := fun W h => Lib.hid (specDevicesRight_any a4 c4 d W h (by unfold maxLen; omega))
 unfold clV at HC1
 dsimp only at HC1
 clear i1 i2 i3 i4 i5 s1 s2 s3 s4 o1 o2 o3 HSm
 generalize clB ⟨⟨n0, n1, n2, n3, n4, n5, n6, n7⟩, ad, st, lf, tk⟩ = V1 at *
 generalize qRightB q = V2 at *
 generalize tabB t = V3 at *
 generalize dvsB d = V4 at *
 generalize eN1 : tk.length = N1 at *
 generalize eN2 : q.length = N2 at *
 generalize eN3 : t.length = N3 at *
 generalize eN4 : d.length = N4 at *
 obtain ⟨N5, eN5⟩ : ∃ N, g.length = N := ⟨_, rfl⟩
 have HN := Lib.hid eN5
 rw [eN5] at s5 HB ⊢
 clear eN1 eN2 eN3 eN4 eN5
 go_enter Tryz.func31, Tryz.ntmps31
 go_wp2_with (first
  | (refine wpList_box_h rfl 48 (.tmp 0) rfl #[.int .i64 n0, .int .i64 n1, .int .i64 n2, .int .i64 n3, .int .i64 n4, .int .i64 n5, .int .i64 n6, .bool n7, .int .i64 ad, .int .i64 st, .int .i64 lf, .slice a1 N1 c1, .slice a2 N2 c2, .slice a3 N3 c3, .slice a4 N4 c4, .slice a5 N5 c5, .int .i64 sq] rfl ?_; intro w1 R1 e1 g1 b1; have HL1 := Lib.hid (show Lg w w1 [(R1, (qG2 n0 n1 n2 n3 n4 n5 n6 n7 ad st lf a1 N1 c1 a2 N2 c2 a3 N3 c3 a4 N4 c4 a5 N5 c5 sq), 48)] [] from (Lg.first w).box e1 g1 b1); clear g1 b1 e1)
  | (refine wpList_load_at rfl 40 (.tmp 5) rfl (R1) 0 rfl 48 (qG2 n0 n1 n2 n3 n4 n5 n6 n7 ad st lf a1 N1 c1 a2 N2 c2 a3 N3 c3 a4 N4 c4 a5 N5 c5 sq) (0, 0) (HL1.out.get (.head _)) [.int .i64 n0, .int .i64 n1, .int .i64 n2, .int .i64 n3, .int .i64 n4, .int .i64 n5, .int .i64 n6, .bool n7, .int .i64 ad, .int .i64 st, .int .i64 lf, .slice a1 N1 c1] rfl _ Tryz.underlying40 rfl (by kernel_rfl) ?_))
 refine ((HC1 _ (HI1.out.kept HL1.out.below)).out).mono ?_
 rintro e w2 ⟨rfl, h⟩
 have HL2 := Lib.hid (show Lg w w2 [(R1, (qG2 n0 n1 n2 n3 n4 n5 n6 n7 ad st lf a1 N1 c1 a2 N2 c2 a3 N3 c3 a4 N4 c4 a5 N5 c5 sq), 48)] [] from HL1.out.kept h)
 clear h
 rcases V1 with _ | _
 ·skip
  have hres : RES = false := by rw [HB.out]; rfl
  go_wp2_with fail
  go_ret
  exact ⟨by rw [hres]; rfl, HL2.out.below⟩
 go_wp2_with (first
  | (refine wpList_load_at (by kernel_rfl) 43 (.tmp 10) rfl (R1) 12 rfl 48 (qG2 n0 n1 n2 n3 n4 n5 n6 n7 ad st lf a1 N1 c1 a2 N2 c2 a3 N3 c3 a4 N4 c4 a5 N5 c5 sq) (0, 0) (HL2.out.get (.head _)) [.slice a2 N2 c2] rfl _ Tryz.underlying43 rfl (by kernel_rfl) ?_))
 refine ((HC2 _ (HI2.out.kept HL2.out.below)).out).mono ?_
 rintro e w3 ⟨rfl, h⟩
 have HL3 := Lib.hid (show Lg w w3 [(R1, (qG2 n0 n1 n2 n3 n4 n5 n6 n7 ad st lf a1 N1 c1 a2 N2 c2 a3 N3 c3 a4 N4 c4 a5 N5 c5 sq), 48)] [] from HL2.out.kept h)
 clear h
 rcases V2 with _ | _
 ·skip
  have hres : RES = false := by rw [HB.out]; rfl
  go_wp2_with fail
  go_ret
  exact ⟨by rw [hres]; rfl, HL3.out.below⟩
 go_wp2_with (first
  | (refine wpList_load_one (by kernel_rfl) 44 (.tmp 16) rfl (R1) 13 rfl 48 (qG2 n0 n1 n2 n3 n4 n5 n6 n7 ad st lf a1 N1 c1 a2 N2 c2 a3 N3 c3 a4 N4 c4 a5 N5 c5 sq) (0, 0) (HL3.out.get (.head _)) (.slice a3 N3 c3) rfl _ Tryz.underlying44 rfl (by kernel_rfl) ?_))
 refine ((HC3 _ (HI3.out.kept HL3.out.below)).out).mono ?_
 rintro e w4 ⟨rfl, h⟩
 have HL4 := Lib.hid (show Lg w w4 [(R1, (qG2 n0 n1 n2 n3 n4 n5 n6 n7 ad st lf a1 N1 c1 a2 N2 c2 a3 N3 c3 a4 N4 c4 a5 N5 c5 sq), 48)] [] from HL3.out.kept h)
 clear h
 rcases V3 with _ | _
 ·skip
  have hres : RES = false := by rw [HB.out]; rfl
  go_wp2_with fail
  go_ret
  exact ⟨by rw [hres]; rfl, HL4.out.below⟩
 go_wp2_with (first
  | (refine wpList_load_one (by kernel_rfl) 45 (.tmp 22) rfl (R1) 14 rfl 48 (qG2 n0 n1 n2 n3 n4 n5 n6 n7 ad st lf a1 N1 c1 a2 N2 c2 a3 N3 c3 a4 N4 c4 a5 N5 c5 sq) (0, 0) (HL4.out.get (.head _)) (.slice a4 N4 c4) rfl _ Tryz.underlying45 rfl (by kernel_rfl) ?_))
 refine ((HC4 _ (HI4.out.kept HL4.out.below)).out).mono ?_
 rintro e w5 ⟨rfl, h⟩
 have HL5 := Lib.hid (show Lg w w5 [(R1, (qG2 n0 n1 n2 n3 n4 n5 n6 n7 ad st lf a1 N1 c1 a2 N2 c2 a3 N3 c3 a4 N4 c4 a5 N5 c5 sq), 48)] [] from HL4.out.kept h)
 clear h
 rcases V4 with _ | _
 ·skip
  have hres : RES = false := by rw [HB.out]; rfl
  go_wp2_with fail
  go_ret
  exact ⟨by rw [hres]; rfl, HL5.out.below⟩
 by_cases g8 : 8 < N5
 ·have hd : decide ((8 : Int) < (N5 : Int)) = true := decide_eq_true (by omega)
  have hq : decide (N5 ≤ 8) = false := decide_eq_false (by omega)
  have hres : RES = false := by rw [HB.out, hq]; rfl
  go_wp2_with (first
   | (refine wpList_load_one (by kernel_rfl) 46 (.tmp 28) rfl (R1) 15 rfl 48 (qG2 n0 n1 n2 n3 n4 n5 n6 n7 ad st lf a1 N1 c1 a2 N2 c2 a3 N3 c3 a4 N4 c4 a5 N5 c5 sq) (0, 0) (HL5.out.get (.head _)) (.slice a5 N5 c5) rfl _ Tryz.underlying46 rfl (by kernel_rfl) ?_))
  go_ret
  exact ⟨by rw [hres]; rfl, HL5.out.below⟩
 have hd : decide ((8 : Int) < (N5 : Int)) = false := decide_eq_false (by omega)
 have hq8 : decide (N5 ≤ 8) = true := decide_eq_true (by omega)
 go_wp2_with (first
  | (refine wpList_load_one (by kernel_rfl) 46 (.tmp 28) rfl (R1) 15 rfl 48 (qG2 n0 n1 n2 n3 n4 n5 n6 n7 ad st lf a1 N1 c1 a2 N2 c2 a3 N3 c3 a4 N4 c4 a5 N5 c5 sq) (0, 0) (HL5.out.get (.head _)) (.slice a5 N5 c5) rfl _ Tryz.underlying46 rfl (by kernel_rfl) ?_)
  | (refine wpList_load_one (by kernel_rfl) 2 (.tmp 34) rfl (R1) 16 rfl 48 (qG2 n0 n1 n2 n3 n4 n5 n6 n7 ad st lf a1 N1 c1 a2 N2 c2 a3 N3 c3 a4 N4 c4 a5 N5 c5 sq) (0, 0) (HL5.out.get (.head _)) (.int .i64 sq) rfl _ Tryz.underlying2 rfl (by kernel_rfl) ?_))
 refine (l02Is_any sq 0 7 _).mono ?_
 rintro e w' ⟨rfl, rfl⟩
 rcases hi : inB 0 7 sq with _ | _
 ·have hres : RES = false := by rw [HB.out, hq8, hi]; rfl
  go_wp2_with fail
  go_ret
  exact ⟨by rw [hres]; rfl, HL5.out.below⟩
 have HB2 := Lib.hid (show RES = allR (fun i => gtB (gtAt g i)) N5 from by rw [HB.out, hq8, hi]; rfl)
 clear HB hi
 go_wp2_with fail
 have HI := Lib.hid (HI5.out.kept HL5.out.below)
 have HLL := Lib.hid HL5.out
 have HRB := Lib.hid (HL5.out.get (.head _))
 have hRlt : R1 < w5.heap.size := HL5.out.lt (.head _)
 go_loopw [3, 4] (fun i _ wr => ∃ k : Nat, i = .int .i64 (k : Int) ∧ k ≤ N5 ∧ (∀ j, j < k → gtB (gtAt g j) = true) ∧ Below w5.heap.size w5 wr) (fun i _ _ => N5 - (intOf i).toNat)
 case atStart => exact ⟨0, rfl, by omega, fun j hj => absurd hj (by omega), Below.refl _ _⟩
 case round =>
  obtain ⟨k, rfl, hk, hall, hb⟩ := hrel
  have HA := Lib.hid hall
  have HR2 := Lib.hid ((hb.block R1 hRlt).trans HRB.out)
  have hRl2 : R1 < wr.heap.size := Nat.lt_of_lt_of_le hRlt hb.size
  clear hall
  by_cases hkn : k < N5
  ·have hkl : k < g.length := by have := HN.out; omega
   have hi1 : (0 : Int) ≤ (k : Int) := by omega
   have hi2 : (k : Int) < (N5 : Int) := by omega
   obtain ⟨b, o, rfl, hlt, hc⟩ := HI.out.at (by omega)
   have lB : b < wr.heap.size := Nat.lt_of_lt_of_le hlt hb.size
   have HCs := Lib.hid (fun j v hv => (hb.cell (p := ⟨b, _, none⟩) hlt).trans (hc k _ (gtAt_some hkl) j v hv))
   have HSz := Lib.hid (HO.out k hkl)
   have HXt := Lib.hid (show gtB (gtAt g k) = true → ∀ j, j < k + 1 → gtB (gtAt g j) = true from fun h j hj => (Nat.lt_or_ge j k).elim (HA.out j) (fun q => (show j = k by omega) ▸ h))
   have HXf := Lib.hid (show gtB (gtAt g k) = false → RES = false from fun h => by rw [HB2.out]; exact allR_no hkn h)
   have HGB := Lib.hid (show gtB (gtAt g k) = (decide (ixD (gtAt g k).p < 6) && (inB 0 255 (gtAt g k).s && (((gtAt g k).dt.size : Int) == (defD (gtAt g k).p).s))) from rfl)
   clear hc
   generalize gtB (gtAt g k) = GB at *
   generalize gtAt g k = x at *
   obtain ⟨s, p, dt⟩ := x
   unfold gtL at HCs
   dsimp only at *
   have HZ := Lib.hid (defD_zero p)
   have HDf := fun W => Lib.hid (specDefOf_any p W)
   unfold DefOut at HDf
   generalize decide (ixD p < 6) = DD at *
   generalize (defD p).p = PP at *
   generalize (defD p).s = SS at *
   generalize (defD p).r = RR at *
   generalize (defD p).fs = FF at *
   have cS := HCs.out 0 _ rfl
   have cP := HCs.out 1 _ rfl
   have cD := HCs.out 2 _ rfl
   rw [Nat.add_zero] at cS
   have CS := Lib.hid cS
   have CP := Lib.hid cP
   have CD := Lib.hid cD
   have hsz := HSz.out
   unfold maxLen at hsz
   clear HCs cS cP cD HSz
   go_wp2_with (first
    | (refine wpList_load_one (by kernel_rfl) 46 (.tmp 40) rfl (R1) 15 rfl 48 #[.int .i64 n0, .int .i64 n1, .int .i64 n2, .int .i64 n3, .int .i64 n4, .int .i64 n5, .int .i64 n6, .bool n7, .int .i64 ad, .int .i64 st, .int .i64 lf, .slice a1 N1 c1, .slice a2 N2 c2, .slice a3 N3 c3, .slice a4 N4 c4, .slice (some ⟨b, o, none⟩) N5 c5, .int .i64 sq] (0, 0) HR2.out (.slice (some ⟨b, o, none⟩) N5 c5) rfl _ Tryz.underlying46 rfl (by kernel_rfl) ?_)
    | (refine wpList_load_one (by kernel_rfl) 46 (.tmp 46) rfl (R1) 15 rfl 48 #[.int .i64 n0, .int .i64 n1, .int .i64 n2, .int .i64 n3, .int .i64 n4, .int .i64 n5, .int .i64 n6, .bool n7, .int .i64 ad, .int .i64 st, .int .i64 lf, .slice a1 N1 c1, .slice a2 N2 c2, .slice a3 N3 c3, .slice a4 N4 c4, .slice (some ⟨b, o, none⟩) N5 c5, .int .i64 sq] (0, 0) HR2.out (.slice (some ⟨b, o, none⟩) N5 c5) rfl _ Tryz.underlying46 rfl (by kernel_rfl) ?_)
    | (refine wpList_load_one1 (by kernel_rfl) 2 (.tmp 50) rfl b (o + k * 3 + 1) rfl (.int .i64 p) CP.out _ Tryz.underlying2 rfl ?_))
   refine (HDf _).out.mono ?_
   rintro e v1 ⟨aF, rfl, -, h1⟩
   have HM1 := Lib.hid (show Lg wr v1 [] [] from (Lg.first wr).kept h1)
   clear h1
   go_wp2_with (first
    | (refine wpList_alloc_h rfl 81 rfl (.agg #[.int .i64 0, .int .i64 0, .int .i64 0, .slice none 0 0]) (by kernel_rfl) #[.int .i64 0, .int .i64 0, .int .i64 0, .slice none 0 0] rfl ?_; intro v2 SR2 e2 g2 b2; have HM2 := Lib.hid (show Lg wr v2 [(SR2, #[.int .i64 0, .int .i64 0, .int .i64 0, .slice none 0 0], 81)] [] from HM1.out.box e2 g2 b2); clear g2 b2 e2)
    | (refine wpList_put_at rfl 81 (.tmp 4) (.tmp 52) rfl rfl (SR2) 0 rfl _ rfl #[.int .i64 PP, .int .i64 SS, .int .i64 RR, .slice aF FF.length FF.length] rfl 81 #[.int .i64 0, .int .i64 0, .int .i64 0, .slice none 0 0] #[.int .i64 PP, .int .i64 SS, .int .i64 RR, .slice aF FF.length FF.length] (HM2.out.get (.head _)) (by kernel_rfl) (by kernel_rfl) (by kernel_rfl) (by kernel_rfl) ?_; intro v3 g3 o3; have HM3 := Lib.hid (show Lg wr v3 [(SR2, #[.int .i64 PP, .int .i64 SS, .int .i64 RR, .slice aF FF.length FF.length], 81)] [] from HM2.out.put 0 rfl g3 o3 (fun _ h => nomatch h) (fun _ h => nomatch h) rfl); clear g3 o3))
   have HR3 := Lib.hid ((HM3.out.below.block R1 hRl2).trans HR2.out)
   have HSb := Lib.hid (HM3.out.get (.head _))
   have CS3 := Lib.hid ((HM3.out.below.cell (p := ⟨b, _, none⟩) lB).trans CS.out)
   have CD3 := Lib.hid ((HM3.out.below.cell (p := ⟨b, _, none⟩) lB).trans CD.out)
   have lB3 : b < v3.heap.size := Nat.lt_of_lt_of_le lB HM3.out.below.size
   obtain ⟨ZB, hZB⟩ : ∃ z, (SS == 0) = z := ⟨_, rfl⟩
   rw [hZB] at HZ
   obtain ⟨QB, hQB⟩ : ∃ z, ((dt.size : Int) == SS) = z := ⟨_, rfl⟩
   have hQn : ((dt.size : Int) != SS) = !QB := by rw [← hQB]; rfl
   rw [hQB] at HGB
   clear hQB
   rcases hi : inB 0 255 s with _ | _
   ·go_wp2_with fail
    refine wp_region_quiet (C := fun W => Below v3.heap.size v3 W) (by kernel_rfl) (by kernel_rfl) (Below.refl _ _).drew ?_
    dsimp only
    try simp only [Act.put, List.setIfInBounds_toArray, List.set_cons_zero, List.set_cons_succ]
    go_big_quiet_want; go_big_quiet_op; first | go_big_quiet_on | (refine ⟨_, fun _ _ => rfl, ?_⟩; go_big_quiet_on)
    go_big_quiet_want; refine ⟨.slice (some ⟨b, o, none⟩) N5 c5, fun W hW => (quietLoadOne 46 (.tmp 53) rfl R1 15 rfl _ (rowCells HR3.out hW _ _ rfl) _ Tryz.underlying46 rfl), ?_⟩; simp only [Act.put, List.setIfInBounds_toArray, List.set_cons_zero, List.set_cons_succ]; go_big_quiet_on
    iterate 3 (go_big_quiet_want; go_big_quiet_op; first | go_big_quiet_on | (refine ⟨_, fun _ _ => rfl, ?_⟩; go_big_quiet_on))
    go_big_quiet_want; refine ⟨.int .i64 s, fun W hW => (quietLoadOne 2 (.tmp 57) rfl b (o + k * 3) rfl _ ((hW.cell (p := ⟨b, o + k * 3, none⟩) lB3).trans CS3.out) _ Tryz.underlying2 rfl), ?_⟩; simp only [Act.put, List.setIfInBounds_toArray, List.set_cons_zero, List.set_cons_succ]; go_big_quiet_on
    go_big_quiet_want; go_big_quiet_op; refine ⟨_, fun W hW => quietSame hW (hi ▸ l02Is_any s 0 255 W), ?_⟩; go_big_quiet_on
    iterate 2 (go_big_quiet_want; go_big_quiet_op; first | go_big_quiet_on | (refine ⟨_, fun _ _ => rfl, ?_⟩; go_big_quiet_on))
    go_big_quiet_skip
    go_big_quiet_skip
    go_big_quiet_skip
    iterate 2 (go_big_quiet_want; go_big_quiet_op; first | go_big_quiet_on | (refine ⟨_, fun _ _ => rfl, ?_⟩; go_big_quiet_on))
    go_big_quiet_skip
    go_big_quiet_skip
    go_big_quiet_skip
    go_big_quiet_skip
    go_big_quiet_skip
    go_big_quiet_skip
    go_big_quiet_skip
    go_big_quiet_skip
    go_big_quiet_skip
    go_big_quiet_skip
    go_big_quiet_want; go_big_quiet_op; first | go_big_quiet_on | (refine ⟨_, fun _ _ => rfl, ?_⟩; go_big_quiet_on)
    refine wpQuiet_nil ?_
    intro X hX
    have hres := HXf.out (by rw [HGB.out, hi]; simp)
    go_wp2_with fail
    go_ret
    exact ⟨by rw [hres]; rfl, HLL.out.below.trans ((hb.trans ((HM3.out.below.trans (hX.mono HM3.out.below.size)).mono hb.size)).mono HLL.out.below.size)⟩
   rcases ZB with _ | _
   ·have hDD : DD = true := by cases DD <;> first | rfl | (have := HZ.out; cases this)
    rcases QB with _ | _
    ·go_wp2_with fail
     refine wp_region_quiet (C := fun W => Below v3.heap.size v3 W) (by kernel_rfl) (by kernel_rfl) (Below.refl _ _).drew ?_
     dsimp only
     try simp only [Act.put, List.setIfInBounds_toArray, List.set_cons_zero, List.set_cons_succ]
     go_big_quiet_want; go_big_quiet_op; first | go_big_quiet_on | (refine ⟨_, fun _ _ => rfl, ?_⟩; go_big_quiet_on)
     go_big_quiet_want; refine ⟨.slice (some ⟨b, o, none⟩) N5 c5, fun W hW => (quietLoadOne 46 (.tmp 53) rfl R1 15 rfl _ (rowCells HR3.out hW _ _ rfl) _ Tryz.underlying46 rfl), ?_⟩; simp only [Act.put, List.setIfInBounds_toArray, List.set_cons_zero, List.set_cons_succ]; go_big_quiet_on
     iterate 3 (go_big_quiet_want; go_big_quiet_op; first | go_big_quiet_on | (refine ⟨_, fun _ _ => rfl, ?_⟩; go_big_quiet_on))
     go_big_quiet_want; refine ⟨.int .i64 s, fun W hW => (quietLoadOne 2 (.tmp 57) rfl b (o + k * 3) rfl _ ((hW.cell (p := ⟨b, o + k * 3, none⟩) lB3).trans CS3.out) _ Tryz.underlying2 rfl), ?_⟩; simp only [Act.put, List.setIfInBounds_toArray, List.set_cons_zero, List.set_cons_succ]; go_big_quiet_on
     go_big_quiet_want; go_big_quiet_op; refine ⟨_, fun W hW => quietSame hW (hi ▸ l02Is_any s 0 255 W), ?_⟩; go_big_quiet_on
     iterate 3 (go_big_quiet_want; go_big_quiet_op; first | go_big_quiet_on | (refine ⟨_, fun _ _ => rfl, ?_⟩; go_big_quiet_on))
     go_big_quiet_want; refine ⟨.int .i64 SS, fun W hW => (quietLoadOne 2 (.tmp 62) rfl SR2 1 rfl _ (rowCells HSb.out hW _ _ rfl) _ Tryz.underlying2 rfl), ?_⟩; simp only [Act.put, List.setIfInBounds_toArray, List.set_cons_zero, List.set_cons_succ]; go_big_quiet_on
     iterate 4 (go_big_quiet_want; go_big_quiet_op; first | go_big_quiet_on | (refine ⟨_, fun _ _ => rfl, ?_⟩; go_big_quiet_on))
     go_big_quiet_want; refine ⟨.slice (some ⟨b, o, none⟩) N5 c5, fun W hW => (quietLoadOne 46 (.tmp 67) rfl R1 15 rfl _ (rowCells HR3.out hW _ _ rfl) _ Tryz.underlying46 rfl), ?_⟩; simp only [Act.put, List.setIfInBounds_toArray, List.set_cons_zero, List.set_cons_succ]; go_big_quiet_on
     iterate 3 (go_big_quiet_want; go_big_quiet_op; first | go_big_quiet_on | (refine ⟨_, fun _ _ => rfl, ?_⟩; go_big_quiet_on))
     go_big_quiet_want; refine ⟨.string dt, fun W hW => (quietLoadOne 9 (.tmp 71) rfl b (o + k * 3 + 2) rfl _ ((hW.cell (p := ⟨b, o + k * 3 + 2, none⟩) lB3).trans CD3.out) _ Tryz.underlying9 rfl), ?_⟩; simp only [Act.put, List.setIfInBounds_toArray, List.set_cons_zero, List.set_cons_succ]; go_big_quiet_on
     iterate 2 (go_big_quiet_want; go_big_quiet_op; first | go_big_quiet_on | (refine ⟨_, fun _ _ => rfl, ?_⟩; go_big_quiet_on))
     go_big_quiet_want; refine ⟨.int .i64 SS, fun W hW => (quietLoadOne 2 (.tmp 74) rfl SR2 1 rfl _ (rowCells HSb.out hW _ _ rfl) _ Tryz.underlying2 rfl), ?_⟩; simp only [Act.put, List.setIfInBounds_toArray, List.set_cons_zero, List.set_cons_succ]; go_big_quiet_on
     iterate 2 (go_big_quiet_want; go_big_quiet_op; first | go_big_quiet_on | (refine ⟨_, fun _ _ => rfl, ?_⟩; go_big_quiet_on))
     refine wpQuiet_nil ?_
     intro X hX
     have hres := HXf.out (by rw [HGB.out]; simp)
     go_wp2_with fail
     go_ret
     exact ⟨by rw [hres]; rfl, HLL.out.below.trans ((hb.trans ((HM3.out.below.trans (hX.mono HM3.out.below.size)).mono hb.size)).mono HLL.out.below.size)⟩
    ·go_wp2_with fail
     refine wp_region_quiet (C := fun W => Below v3.heap.size v3 W) (by kernel_rfl) (by kernel_rfl) (Below.refl _ _).drew ?_
     dsimp only
     try simp only [Act.put, List.setIfInBounds_toArray, List.set_cons_zero, List.set_cons_succ]
     go_big_quiet_want; go_big_quiet_op; first | go_big_quiet_on | (refine ⟨_, fun _ _ => rfl, ?_⟩; go_big_quiet_on)
     go_big_quiet_want; refine ⟨.slice (some ⟨b, o, none⟩) N5 c5, fun W hW => (quietLoadOne 46 (.tmp 53) rfl R1 15 rfl _ (rowCells HR3.out hW _ _ rfl) _ Tryz.underlying46 rfl), ?_⟩; simp only [Act.put, List.setIfInBounds_toArray, List.set_cons_zero, List.set_cons_succ]; go_big_quiet_on
     iterate 3 (go_big_quiet_want; go_big_quiet_op; first | go_big_quiet_on | (refine ⟨_, fun _ _ => rfl, ?_⟩; go_big_quiet_on))
     go_big_quiet_want; refine ⟨.int .i64 s, fun W hW => (quietLoadOne 2 (.tmp 57) rfl b (o + k * 3) rfl _ ((hW.cell (p := ⟨b, o + k * 3, none⟩) lB3).trans CS3.out) _ Tryz.underlying2 rfl), ?_⟩; simp only [Act.put, List.setIfInBounds_toArray, List.set_cons_zero, List.set_cons_succ]; go_big_quiet_on
     go_big_quiet_want; go_big_quiet_op; refine ⟨_, fun W hW => quietSame hW (hi ▸ l02Is_any s 0 255 W), ?_⟩; go_big_quiet_on
     iterate 3 (go_big_quiet_want; go_big_quiet_op; first | go_big_quiet_on | (refine ⟨_, fun _ _ => rfl, ?_⟩; go_big_quiet_on))
     go_big_quiet_want; refine ⟨.int .i64 SS, fun W hW => (quietLoadOne 2 (.tmp 62) rfl SR2 1 rfl _ (rowCells HSb.out hW _ _ rfl) _ Tryz.underlying2 rfl), ?_⟩; simp only [Act.put, List.setIfInBounds_toArray, List.set_cons_zero, List.set_cons_succ]; go_big_quiet_on
     iterate 4 (go_big_quiet_want; go_big_quiet_op; first | go_big_quiet_on | (refine ⟨_, fun _ _ => rfl, ?_⟩; go_big_quiet_on))
     go_big_quiet_want; refine ⟨.slice (some ⟨b, o, none⟩) N5 c5, fun W hW => (quietLoadOne 46 (.tmp 67) rfl R1 15 rfl _ (rowCells HR3.out hW _ _ rfl) _ Tryz.underlying46 rfl), ?_⟩; simp only [Act.put, List.setIfInBounds_toArray, List.set_cons_zero, List.set_cons_succ]; go_big_quiet_on
     iterate 3 (go_big_quiet_want; go_big_quiet_op; first | go_big_quiet_on | (refine ⟨_, fun _ _ => rfl, ?_⟩; go_big_quiet_on))
     go_big_quiet_want; refine ⟨.string dt, fun W hW => (quietLoadOne 9 (.tmp 71) rfl b (o + k * 3 + 2) rfl _ ((hW.cell (p := ⟨b, o + k * 3 + 2, none⟩) lB3).trans CD3.out) _ Tryz.underlying9 rfl), ?_⟩; simp only [Act.put, List.setIfInBounds_toArray, List.set_cons_zero, List.set_cons_succ]; go_big_quiet_on
     iterate 2 (go_big_quiet_want; go_big_quiet_op; first | go_big_quiet_on | (refine ⟨_, fun _ _ => rfl, ?_⟩; go_big_quiet_on))
     go_big_quiet_want; refine ⟨.int .i64 SS, fun W hW => (quietLoadOne 2 (.tmp 74) rfl SR2 1 rfl _ (rowCells HSb.out hW _ _ rfl) _ Tryz.underlying2 rfl), ?_⟩; simp only [Act.put, List.setIfInBounds_toArray, List.set_cons_zero, List.set_cons_succ]; go_big_quiet_on
     iterate 2 (go_big_quiet_want; go_big_quiet_op; first | go_big_quiet_on | (refine ⟨_, fun _ _ => rfl, ?_⟩; go_big_quiet_on))
     refine wpQuiet_nil ?_
     intro X hX
     have hal := Lib.hid (HXt.out (by rw [HGB.out, hDD, hi]; rfl))
     go_wp2_with fail
     go_roundw
     case rel => exact ⟨k + 1, by go_num, by omega, hal.out, hb.trans ((HM3.out.below.trans (hX.mono HM3.out.below.size)).mono hb.size)⟩
     case measure => simp [intOf]; omega
   ·have hDD : DD = false := by cases DD <;> first | rfl | (have := HZ.out; cases this)
    go_wp2_with fail
    refine wp_region_quiet (C := fun W => Below v3.heap.size v3 W) (by kernel_rfl) (by kernel_rfl) (Below.refl _ _).drew ?_
    dsimp only
    try simp only [Act.put, List.setIfInBounds_toArray, List.set_cons_zero, List.set_cons_succ]
    go_big_quiet_want; go_big_quiet_op; first | go_big_quiet_on | (refine ⟨_, fun _ _ => rfl, ?_⟩; go_big_quiet_on)
    go_big_quiet_want; refine ⟨.slice (some ⟨b, o, none⟩) N5 c5, fun W hW => (quietLoadOne 46 (.tmp 53) rfl R1 15 rfl _ (rowCells HR3.out hW _ _ rfl) _ Tryz.underlying46 rfl), ?_⟩; simp only [Act.put, List.setIfInBounds_toArray, List.set_cons_zero, List.set_cons_succ]; go_big_quiet_on
    iterate 3 (go_big_quiet_want; go_big_quiet_op; first | go_big_quiet_on | (refine ⟨_, fun _ _ => rfl, ?_⟩; go_big_quiet_on))
    go_big_quiet_want; refine ⟨.int .i64 s, fun W hW => (quietLoadOne 2 (.tmp 57) rfl b (o + k * 3) rfl _ ((hW.cell (p := ⟨b, o + k * 3, none⟩) lB3).trans CS3.out) _ Tryz.underlying2 rfl), ?_⟩; simp only [Act.put, List.setIfInBounds_toArray, List.set_cons_zero, List.set_cons_succ]; go_big_quiet_on
    go_big_quiet_want; go_big_quiet_op; refine ⟨_, fun W hW => quietSame hW (hi ▸ l02Is_any s 0 255 W), ?_⟩; go_big_quiet_on
    iterate 3 (go_big_quiet_want; go_big_quiet_op; first | go_big_quiet_on | (refine ⟨_, fun _ _ => rfl, ?_⟩; go_big_quiet_on))
    go_big_quiet_want; refine ⟨.int .i64 SS, fun W hW => (quietLoadOne 2 (.tmp 62) rfl SR2 1 rfl _ (rowCells HSb.out hW _ _ rfl) _ Tryz.underlying2 rfl), ?_⟩; simp only [Act.put, List.setIfInBounds_toArray, List.set_cons_zero, List.set_cons_succ]; go_big_quiet_on
    iterate 3 (go_big_quiet_want; go_big_quiet_op; first | go_big_quiet_on | (refine ⟨_, fun _ _ => rfl, ?_⟩; go_big_quiet_on))
    go_big_quiet_skip
    go_big_quiet_skip
    go_big_quiet_skip
    go_big_quiet_skip
    go_big_quiet_skip
    go_big_quiet_skip
    go_big_quiet_skip
    go_big_quiet_skip
    go_big_quiet_skip
    go_big_quiet_skip
    go_big_quiet_want; go_big_quiet_op; first | go_big_quiet_on | (refine ⟨_, fun _ _ => rfl, ?_⟩; go_big_quiet_on)
    refine wpQuiet_nil ?_
    intro X hX
    have hres := HXf.out (by rw [HGB.out, hDD]; rfl)
    go_wp2_with fail
    go_ret
    exact ⟨by rw [hres]; rfl, HLL.out.below.trans ((hb.trans ((HM3.out.below.trans (hX.mono HM3.out.below.size)).mono hb.size)).mono HLL.out.below.size)⟩
  ·have hres : RES = true := by rw [HB2.out]; exact allR_yes (fun i hi => HA.out i (by omega))
   have hcf : decide ((k : Int) < (N5 : Int)) = false := decide_eq_false (by omega)
   go_wp2_with (first
    | (refine wpList_load_one (by kernel_rfl) 46 (.tmp 40) rfl (R1) 15 rfl 48 #[.int .i64 n0, .int .i64 n1, .int .i64 n2, .int .i64 n3, .int .i64 n4, .int .i64 n5, .int .i64 n6, .bool n7, .int .i64 ad, .int .i64 st, .int .i64 lf, .slice a1 N1 c1, .slice a2 N2 c2, .slice a3 N3 c3, .slice a4 N4 c4, .slice a5 N5 c5, .int .i64 sq] (0, 0) HR2.out (.slice a5 N5 c5) rfl _ Tryz.underlying46 rfl (by kernel_rfl) ?_))
   go_ret
   exact ⟨by rw [hres]; rfl, HLL.out.below.trans (hb.mono HLL.out.below.size)⟩
end Go.Proofs.YtioldepgoodipaaGreat
namespace Go.Proofs.YtioldepgoodipaaGreat
open Go.RowKit
set_option linter.unusedVariables false

theorem sndC_take {r p ad : Int} {F : List ByteArray} {k : Nat} {y : ByteArray} (h : F[k]? = some y) : sndC r p ad (F.take (k + 1)) = sndC r p ad (F.take k) ++ [(idN r p 255 ad, y)] := by
 unfold sndC
 rw [List.take_add_one, h]
 simp
set_option maxRecDepth 100000 in
set_option maxHeartbeats 32000000 in
theorem specNodeSend_any (x : Nd) (a1 a2 a3 a4 a5 : Option Addr) (c1 c2 c3 c4 c5 : Nat) (p : Int) (b : Option Addr) (d : Nat) (l : List Vl) (w : World) (h : NdIn w a1 a2 a3 a4 a5 x) (hok : NdOk x) (hs : NdSmall x) (hl : RsIn vlL 2 w b l) (hlen : l.length ≤ maxLen) :
  Calls Tryz.prog 8 #[ndV x a1 a2 a3 a4 a5 c1 c2 c3 c4 c5, .int .i64 p, .slice b l.length d] w (NdOutNew (sndO x p l).1 (sndO x p l).2 w) := by
 have HR := fun W (hW : NdIn W a1 a2 a3 a4 a5 x) => Lib.hid (specNodeRight_any x a1 a2 a3 a4 a5 c1 c2 c3 c4 c5 W hW hok hs)
 have HV := fun W (hW : RsIn vlL 2 W b l) => Lib.hid (specValuesRight_any p b d l W hW hlen)
 have HI := Lib.hid h
 have HL := Lib.hid hl
 have HO := Lib.hid (show sndO x p l = if 400 < l.length then (ndZ, 2) else if (ndB x && vrB p l) = false then (ndZ, 1) else if x.c.st ≠ 2 then (ndZ, 10) else if 16 < x.q.length + (sndV x p l).length then (ndZ, 9) else (sndN x (sndV x p l) (sndS x.s (sndT p l)), 0) from rfl)
 generalize sndO x p l = O at *
 obtain ⟨N, hN⟩ : ∃ N, l.length = N := ⟨_, rfl⟩
 by_cases h4 : 400 < N
 ·have hd : decide (400 < (N : Int)) = true := decide_eq_true (by omega)
  have ho : O = (ndZ, 2) := by rw [HO.out, hN, if_pos h4]
  rw [ho]
  clear HO ho hok hs hl hlen h
  rw [hN]
  clear hN
  unfold ndV NdOutNew ndOutV at *
  go_enter Tryz.func8, Tryz.ntmps8
  go_wp2_with (first
   | (refine wpList_box_h rfl 48 (.tmp 0) rfl #[.int .i64 x.c.n.u, .int .i64 x.c.n.m, .int .i64 x.c.n.i, .int .i64 x.c.n.f, .int .i64 x.c.n.c, .int .i64 x.c.n.s, .int .i64 x.c.n.y, .bool x.c.n.a, .int .i64 x.c.ad, .int .i64 x.c.st, .int .i64 x.c.lf, .slice a1 x.c.tk.length c1, .slice a2 x.q.length c2, .slice a3 x.t.length c3, .slice a4 x.d.length c4, .slice a5 x.g.length c5, .int .i64 x.s] rfl ?_; intro w1 R1 e1 g1 b1; have HL1 := Lib.hid (show Lg w w1 [(R1, (qG0 x a1 x.c.tk.length c1 a2 x.q.length c2 a3 x.t.length c3 a4 x.d.length c4 a5 x.g.length c5 x.s), 48)] [] from (Lg.first w).box e1 g1 b1); clear g1 b1 e1)
   | (refine wpList_alloc_h rfl 50 rfl (.agg #[.int .i64 0, .int .i64 0, .int .i64 0, .int .i64 0, .int .i64 0, .int .i64 0, .int .i64 0, .bool false, .int .i64 0, .int .i64 0, .int .i64 0, .slice none 0 0, .slice none 0 0, .slice none 0 0, .slice none 0 0, .slice none 0 0, .int .i64 0, .int .i64 0]) (by kernel_rfl) #[.int .i64 0, .int .i64 0, .int .i64 0, .int .i64 0, .int .i64 0, .int .i64 0, .int .i64 0, .bool false, .int .i64 0, .int .i64 0, .int .i64 0, .slice none 0 0, .slice none 0 0, .slice none 0 0, .slice none 0 0, .slice none 0 0, .int .i64 0, .int .i64 0] rfl ?_; intro w2 R2 e2 g2 b2; have qR2_R1 : R1 < R2 := Nat.lt_of_lt_of_eq (HL1.out.lt (.head _)) e2; have HL2 := Lib.hid (show Lg w w2 [(R2, (qG3), 50), (R1, (qG0 x a1 x.c.tk.length c1 a2 x.q.length c2 a3 x.t.length c3 a4 x.d.length c4 a5 x.g.length c5 x.s), 48)] [] from HL1.out.box e2 g2 b2); clear g2 b2 e2))
  refine (l10Ill_any 2 _).mono ?_
  rintro e w3 ⟨rfl, h⟩
  have HL3 := Lib.hid (show Lg w w3 [(R2, (qG3), 50), (R1, (qG0 x a1 x.c.tk.length c1 a2 x.q.length c2 a3 x.t.length c3 a4 x.d.length c4 a5 x.g.length c5 x.s), 48)] [] from HL2.out.kept h)
  clear h
  go_wp2_with (first
   | (refine wpList_put_at rfl 50 (.tmp 6) (.tmp 18) rfl rfl (R2) 0 rfl _ rfl #[.int .i64 0, .int .i64 0, .int .i64 0, .int .i64 0, .int .i64 0, .int .i64 0, .int .i64 0, .bool false, .int .i64 0, .int .i64 0, .int .i64 0, .slice none 0 0, .slice none 0 0, .slice none 0 0, .slice none 0 0, .slice none 0 0, .int .i64 0, .int .i64 2] rfl 50 (qG3) (qG4) (HL3.out.get (.head _)) (by kernel_rfl) (by kernel_rfl) (by kernel_rfl) (by kernel_rfl) ?_; intro w4 g4 o4; have HL4 := Lib.hid (show Lg w w4 [(R2, (qG4), 50), (R1, (qG0 x a1 x.c.tk.length c1 a2 x.q.length c2 a3 x.t.length c3 a4 x.d.length c4 a5 x.g.length c5 x.s), 48)] [] from HL3.out.put 0 rfl g4 o4 (qGf ⟨Nat.ne_of_lt qR2_R1, (fun _ h => nomatch h)⟩) (fun _ h => nomatch h) rfl); clear g4 o4))
  exact bodyPost_ret (results_cell_row (p := 6) (ty := 50) (by kernel_rfl) _ _ (R2) 50 _ (0, 0) _ rfl (HL4.out.get (.head _)) Tryz.underlying50 rfl (by kernel_rfl)) rfl ⟨none, none, none, none, none, 0, 0, 0, 0, 0, rfl, ndZ_new HL4.out.below.size, HL4.out.below⟩
 have hd : decide (400 < (N : Int)) = false := decide_eq_false (by omega)
 rcases hb : ndB x with _ | _
 ·have ho : O = (ndZ, 1) := by rw [HO.out, hN, if_neg h4, hb]; rfl
  rw [ho]
  rw [hb] at HR
  clear HO ho hok hs hl hlen h hb
  rw [hN]
  clear hN
  unfold ndV NdOutNew ndOutV at *
  go_enter Tryz.func8, Tryz.ntmps8
  go_wp2_with (first
   | (refine wpList_box_h rfl 48 (.tmp 0) rfl #[.int .i64 x.c.n.u, .int .i64 x.c.n.m, .int .i64 x.c.n.i, .int .i64 x.c.n.f, .int .i64 x.c.n.c, .int .i64 x.c.n.s, .int .i64 x.c.n.y, .bool x.c.n.a, .int .i64 x.c.ad, .int .i64 x.c.st, .int .i64 x.c.lf, .slice a1 x.c.tk.length c1, .slice a2 x.q.length c2, .slice a3 x.t.length c3, .slice a4 x.d.length c4, .slice a5 x.g.length c5, .int .i64 x.s] rfl ?_; intro w1 R1 e1 g1 b1; have HL1 := Lib.hid (show Lg w w1 [(R1, (qG0 x a1 x.c.tk.length c1 a2 x.q.length c2 a3 x.t.length c3 a4 x.d.length c4 a5 x.g.length c5 x.s), 48)] [] from (Lg.first w).box e1 g1 b1); clear g1 b1 e1)
   | (refine wpList_alloc_h rfl 50 rfl (.agg #[.int .i64 0, .int .i64 0, .int .i64 0, .int .i64 0, .int .i64 0, .int .i64 0, .int .i64 0, .bool false, .int .i64 0, .int .i64 0, .int .i64 0, .slice none 0 0, .slice none 0 0, .slice none 0 0, .slice none 0 0, .slice none 0 0, .int .i64 0, .int .i64 0]) (by kernel_rfl) #[.int .i64 0, .int .i64 0, .int .i64 0, .int .i64 0, .int .i64 0, .int .i64 0, .int .i64 0, .bool false, .int .i64 0, .int .i64 0, .int .i64 0, .slice none 0 0, .slice none 0 0, .slice none 0 0, .slice none 0 0, .slice none 0 0, .int .i64 0, .int .i64 0] rfl ?_; intro w2 R2 e2 g2 b2; have qR2_R1 : R1 < R2 := Nat.lt_of_lt_of_eq (HL1.out.lt (.head _)) e2; have HL2 := Lib.hid (show Lg w w2 [(R2, (qG3), 50), (R1, (qG0 x a1 x.c.tk.length c1 a2 x.q.length c2 a3 x.t.length c3 a4 x.d.length c4 a5 x.g.length c5 x.s), 48)] [] from HL1.out.box e2 g2 b2); clear g2 b2 e2)
   | (refine wpList_load_at (by kernel_rfl) 48 (.tmp 3) rfl (R1) 0 rfl 48 (qG0 x a1 x.c.tk.length c1 a2 x.q.length c2 a3 x.t.length c3 a4 x.d.length c4 a5 x.g.length c5 x.s) (0, 0) (HL2.out.get qGm1) [.int .i64 x.c.n.u, .int .i64 x.c.n.m, .int .i64 x.c.n.i, .int .i64 x.c.n.f, .int .i64 x.c.n.c, .int .i64 x.c.n.s, .int .i64 x.c.n.y, .bool x.c.n.a, .int .i64 x.c.ad, .int .i64 x.c.st, .int .i64 x.c.lf, .slice a1 x.c.tk.length c1, .slice a2 x.q.length c2, .slice a3 x.t.length c3, .slice a4 x.d.length c4, .slice a5 x.g.length c5, .int .i64 x.s] rfl _ Tryz.underlying48 rfl (by kernel_rfl) ?_))
  refine ((HR _ (HI.out.kept HL2.out.below)).out).mono ?_
  rintro e w3 ⟨rfl, h⟩
  have HL3 := Lib.hid (show Lg w w3 [(R2, (qG3), 50), (R1, (qG0 x a1 x.c.tk.length c1 a2 x.q.length c2 a3 x.t.length c3 a4 x.d.length c4 a5 x.g.length c5 x.s), 48)] [] from HL2.out.kept h)
  clear h
  go_wp2_with fail
  refine (l10Ill_any 1 _).mono ?_
  rintro e w4 ⟨rfl, h⟩
  have HL4 := Lib.hid (show Lg w w4 [(R2, (qG3), 50), (R1, (qG0 x a1 x.c.tk.length c1 a2 x.q.length c2 a3 x.t.length c3 a4 x.d.length c4 a5 x.g.length c5 x.s), 48)] [] from HL3.out.kept h)
  clear h
  go_wp2_with (first
   | (refine wpList_put_at rfl 50 (.tmp 6) (.tmp 28) rfl rfl (R2) 0 rfl _ rfl #[.int .i64 0, .int .i64 0, .int .i64 0, .int .i64 0, .int .i64 0, .int .i64 0, .int .i64 0, .bool false, .int .i64 0, .int .i64 0, .int .i64 0, .slice none 0 0, .slice none 0 0, .slice none 0 0, .slice none 0 0, .slice none 0 0, .int .i64 0, .int .i64 1] rfl 50 (qG3) (qG5) (HL4.out.get (.head _)) (by kernel_rfl) (by kernel_rfl) (by kernel_rfl) (by kernel_rfl) ?_; intro w5 g5 o5; have HL5 := Lib.hid (show Lg w w5 [(R2, (qG5), 50), (R1, (qG0 x a1 x.c.tk.length c1 a2 x.q.length c2 a3 x.t.length c3 a4 x.d.length c4 a5 x.g.length c5 x.s), 48)] [] from HL4.out.put 0 rfl g5 o5 (qGf ⟨Nat.ne_of_lt qR2_R1, (fun _ h => nomatch h)⟩) (fun _ h => nomatch h) rfl); clear g5 o5))
  exact bodyPost_ret (results_cell_row (p := 6) (ty := 50) (by kernel_rfl) _ _ (R2) 50 _ (0, 0) _ rfl (HL5.out.get (.head _)) Tryz.underlying50 rfl (by kernel_rfl)) rfl ⟨none, none, none, none, none, 0, 0, 0, 0, 0, rfl, ndZ_new HL5.out.below.size, HL5.out.below⟩
 rcases hv : vrB p l with _ | _
 ·have ho : O = (ndZ, 1) := by rw [HO.out, hN, if_neg h4, hb, hv]; rfl
  rw [ho]
  rw [hb] at HR
  rw [hv] at HV
  clear HO ho hok hs hl hlen h hb hv
  rw [hN] at HV ⊢
  clear hN
  unfold ndV NdOutNew ndOutV at *
  go_enter Tryz.func8, Tryz.ntmps8
  go_wp2_with (first
   | (refine wpList_box_h rfl 48 (.tmp 0) rfl #[.int .i64 x.c.n.u, .int .i64 x.c.n.m, .int .i64 x.c.n.i, .int .i64 x.c.n.f, .int .i64 x.c.n.c, .int .i64 x.c.n.s, .int .i64 x.c.n.y, .bool x.c.n.a, .int .i64 x.c.ad, .int .i64 x.c.st, .int .i64 x.c.lf, .slice a1 x.c.tk.length c1, .slice a2 x.q.length c2, .slice a3 x.t.length c3, .slice a4 x.d.length c4, .slice a5 x.g.length c5, .int .i64 x.s] rfl ?_; intro w1 R1 e1 g1 b1; have HL1 := Lib.hid (show Lg w w1 [(R1, (qG0 x a1 x.c.tk.length c1 a2 x.q.length c2 a3 x.t.length c3 a4 x.d.length c4 a5 x.g.length c5 x.s), 48)] [] from (Lg.first w).box e1 g1 b1); clear g1 b1 e1)
   | (refine wpList_alloc_h rfl 50 rfl (.agg #[.int .i64 0, .int .i64 0, .int .i64 0, .int .i64 0, .int .i64 0, .int .i64 0, .int .i64 0, .bool false, .int .i64 0, .int .i64 0, .int .i64 0, .slice none 0 0, .slice none 0 0, .slice none 0 0, .slice none 0 0, .slice none 0 0, .int .i64 0, .int .i64 0]) (by kernel_rfl) #[.int .i64 0, .int .i64 0, .int .i64 0, .int .i64 0, .int .i64 0, .int .i64 0, .int .i64 0, .bool false, .int .i64 0, .int .i64 0, .int .i64 0, .slice none 0 0, .slice none 0 0, .slice none 0 0, .slice none 0 0, .slice none 0 0, .int .i64 0, .int .i64 0] rfl ?_; intro w2 R2 e2 g2 b2; have qR2_R1 : R1 < R2 := Nat.lt_of_lt_of_eq (HL1.out.lt (.head _)) e2; have HL2 := Lib.hid (show Lg w w2 [(R2, (qG3), 50), (R1, (qG0 x a1 x.c.tk.length c1 a2 x.q.length c2 a3 x.t.length c3 a4 x.d.length c4 a5 x.g.length c5 x.s), 48)] [] from HL1.out.box e2 g2 b2); clear g2 b2 e2)
   | (refine wpList_load_at (by kernel_rfl) 48 (.tmp 3) rfl (R1) 0 rfl 48 (qG0 x a1 x.c.tk.length c1 a2 x.q.length c2 a3 x.t.length c3 a4 x.d.length c4 a5 x.g.length c5 x.s) (0, 0) (HL2.out.get qGm1) [.int .i64 x.c.n.u, .int .i64 x.c.n.m, .int .i64 x.c.n.i, .int .i64 x.c.n.f, .int .i64 x.c.n.c, .int .i64 x.c.n.s, .int .i64 x.c.n.y, .bool x.c.n.a, .int .i64 x.c.ad, .int .i64 x.c.st, .int .i64 x.c.lf, .slice a1 x.c.tk.length c1, .slice a2 x.q.length c2, .slice a3 x.t.length c3, .slice a4 x.d.length c4, .slice a5 x.g.length c5, .int .i64 x.s] rfl _ Tryz.underlying48 rfl (by kernel_rfl) ?_))
  refine ((HR _ (HI.out.kept HL2.out.below)).out).mono ?_
  rintro e w3 ⟨rfl, h⟩
  have HL3 := Lib.hid (show Lg w w3 [(R2, (qG3), 50), (R1, (qG0 x a1 x.c.tk.length c1 a2 x.q.length c2 a3 x.t.length c3 a4 x.d.length c4 a5 x.g.length c5 x.s), 48)] [] from HL2.out.kept h)
  clear h
  go_wp2_with fail
  refine ((HV _ (HL.out.kept HL3.out.below)).out).mono ?_
  rintro e w4 ⟨rfl, h⟩
  have HL4 := Lib.hid (show Lg w w4 [(R2, (qG3), 50), (R1, (qG0 x a1 x.c.tk.length c1 a2 x.q.length c2 a3 x.t.length c3 a4 x.d.length c4 a5 x.g.length c5 x.s), 48)] [] from HL3.out.kept h)
  clear h
  go_wp2_with fail
  refine (l10Ill_any 1 _).mono ?_
  rintro e w5 ⟨rfl, h⟩
  have HL5 := Lib.hid (show Lg w w5 [(R2, (qG3), 50), (R1, (qG0 x a1 x.c.tk.length c1 a2 x.q.length c2 a3 x.t.length c3 a4 x.d.length c4 a5 x.g.length c5 x.s), 48)] [] from HL4.out.kept h)
  clear h
  go_wp2_with (first
   | (refine wpList_put_at rfl 50 (.tmp 6) (.tmp 28) rfl rfl (R2) 0 rfl _ rfl #[.int .i64 0, .int .i64 0, .int .i64 0, .int .i64 0, .int .i64 0, .int .i64 0, .int .i64 0, .bool false, .int .i64 0, .int .i64 0, .int .i64 0, .slice none 0 0, .slice none 0 0, .slice none 0 0, .slice none 0 0, .slice none 0 0, .int .i64 0, .int .i64 1] rfl 50 (qG3) (qG5) (HL5.out.get (.head _)) (by kernel_rfl) (by kernel_rfl) (by kernel_rfl) (by kernel_rfl) ?_; intro w6 g6 o6; have HL6 := Lib.hid (show Lg w w6 [(R2, (qG5), 50), (R1, (qG0 x a1 x.c.tk.length c1 a2 x.q.length c2 a3 x.t.length c3 a4 x.d.length c4 a5 x.g.length c5 x.s), 48)] [] from HL5.out.put 0 rfl g6 o6 (qGf ⟨Nat.ne_of_lt qR2_R1, (fun _ h => nomatch h)⟩) (fun _ h => nomatch h) rfl); clear g6 o6))
  exact bodyPost_ret (results_cell_row (p := 6) (ty := 50) (by kernel_rfl) _ _ (R2) 50 _ (0, 0) _ rfl (HL6.out.get (.head _)) Tryz.underlying50 rfl (by kernel_rfl)) rfl ⟨none, none, none, none, none, 0, 0, 0, 0, 0, rfl, ndZ_new HL6.out.below.size, HL6.out.below⟩
 by_cases hst : x.c.st = 2
 rotate_left
 ·have hd2 : (x.c.st != 2) = true := by simpa using hst
  have ho : O = (ndZ, 10) := by rw [HO.out, hN, if_neg h4, hb, hv]; simp [hst]
  rw [ho]
  rw [hb] at HR
  rw [hv] at HV
  clear HO ho hok hs hl hlen h hb hv hst
  rw [hN] at HV ⊢
  clear hN
  unfold ndV NdOutNew ndOutV at *
  go_enter Tryz.func8, Tryz.ntmps8
  go_wp2_with (first
   | (refine wpList_box_h rfl 48 (.tmp 0) rfl #[.int .i64 x.c.n.u, .int .i64 x.c.n.m, .int .i64 x.c.n.i, .int .i64 x.c.n.f, .int .i64 x.c.n.c, .int .i64 x.c.n.s, .int .i64 x.c.n.y, .bool x.c.n.a, .int .i64 x.c.ad, .int .i64 x.c.st, .int .i64 x.c.lf, .slice a1 x.c.tk.length c1, .slice a2 x.q.length c2, .slice a3 x.t.length c3, .slice a4 x.d.length c4, .slice a5 x.g.length c5, .int .i64 x.s] rfl ?_; intro w1 R1 e1 g1 b1; have HL1 := Lib.hid (show Lg w w1 [(R1, (qG0 x a1 x.c.tk.length c1 a2 x.q.length c2 a3 x.t.length c3 a4 x.d.length c4 a5 x.g.length c5 x.s), 48)] [] from (Lg.first w).box e1 g1 b1); clear g1 b1 e1)
   | (refine wpList_alloc_h rfl 50 rfl (.agg #[.int .i64 0, .int .i64 0, .int .i64 0, .int .i64 0, .int .i64 0, .int .i64 0, .int .i64 0, .bool false, .int .i64 0, .int .i64 0, .int .i64 0, .slice none 0 0, .slice none 0 0, .slice none 0 0, .slice none 0 0, .slice none 0 0, .int .i64 0, .int .i64 0]) (by kernel_rfl) #[.int .i64 0, .int .i64 0, .int .i64 0, .int .i64 0, .int .i64 0, .int .i64 0, .int .i64 0, .bool false, .int .i64 0, .int .i64 0, .int .i64 0, .slice none 0 0, .slice none 0 0, .slice none 0 0, .slice none 0 0, .slice none 0 0, .int .i64 0, .int .i64 0] rfl ?_; intro w2 R2 e2 g2 b2; have qR2_R1 : R1 < R2 := Nat.lt_of_lt_of_eq (HL1.out.lt (.head _)) e2; have HL2 := Lib.hid (show Lg w w2 [(R2, (qG3), 50), (R1, (qG0 x a1 x.c.tk.length c1 a2 x.q.length c2 a3 x.t.length c3 a4 x.d.length c4 a5 x.g.length c5 x.s), 48)] [] from HL1.out.box e2 g2 b2); clear g2 b2 e2)
   | (refine wpList_load_at (by kernel_rfl) 48 (.tmp 3) rfl (R1) 0 rfl 48 (qG0 x a1 x.c.tk.length c1 a2 x.q.length c2 a3 x.t.length c3 a4 x.d.length c4 a5 x.g.length c5 x.s) (0, 0) (HL2.out.get qGm1) [.int .i64 x.c.n.u, .int .i64 x.c.n.m, .int .i64 x.c.n.i, .int .i64 x.c.n.f, .int .i64 x.c.n.c, .int .i64 x.c.n.s, .int .i64 x.c.n.y, .bool x.c.n.a, .int .i64 x.c.ad, .int .i64 x.c.st, .int .i64 x.c.lf, .slice a1 x.c.tk.length c1, .slice a2 x.q.length c2, .slice a3 x.t.length c3, .slice a4 x.d.length c4, .slice a5 x.g.length c5, .int .i64 x.s] rfl _ Tryz.underlying48 rfl (by kernel_rfl) ?_))
  refine ((HR _ (HI.out.kept HL2.out.below)).out).mono ?_
  rintro e w3 ⟨rfl, h⟩
  have HL3 := Lib.hid (show Lg w w3 [(R2, (qG3), 50), (R1, (qG0 x a1 x.c.tk.length c1 a2 x.q.length c2 a3 x.t.length c3 a4 x.d.length c4 a5 x.g.length c5 x.s), 48)] [] from HL2.out.kept h)
  clear h
  go_wp2_with fail
  refine ((HV _ (HL.out.kept HL3.out.below)).out).mono ?_
  rintro e w4 ⟨rfl, h⟩
  have HL4 := Lib.hid (show Lg w w4 [(R2, (qG3), 50), (R1, (qG0 x a1 x.c.tk.length c1 a2 x.q.length c2 a3 x.t.length c3 a4 x.d.length c4 a5 x.g.length c5 x.s), 48)] [] from HL3.out.kept h)
  clear h
  go_wp2_with (first
   | (refine wpList_load_one (by kernel_rfl) 2 (.tmp 30) rfl (R1) 9 rfl 48 (qG0 x a1 x.c.tk.length c1 a2 x.q.length c2 a3 x.t.length c3 a4 x.d.length c4 a5 x.g.length c5 x.s) (0, 0) (HL4.out.get qGm1) (.int .i64 x.c.st) rfl _ Tryz.underlying2 rfl (by kernel_rfl) ?_))
  refine (l10Ill_any 10 _).mono ?_
  rintro e w5 ⟨rfl, h⟩
  have HL5 := Lib.hid (show Lg w w5 [(R2, (qG3), 50), (R1, (qG0 x a1 x.c.tk.length c1 a2 x.q.length c2 a3 x.t.length c3 a4 x.d.length c4 a5 x.g.length c5 x.s), 48)] [] from HL4.out.kept h)
  clear h
  go_wp2_with (first
   | (refine wpList_put_at rfl 50 (.tmp 6) (.tmp 33) rfl rfl (R2) 0 rfl _ rfl #[.int .i64 0, .int .i64 0, .int .i64 0, .int .i64 0, .int .i64 0, .int .i64 0, .int .i64 0, .bool false, .int .i64 0, .int .i64 0, .int .i64 0, .slice none 0 0, .slice none 0 0, .slice none 0 0, .slice none 0 0, .slice none 0 0, .int .i64 0, .int .i64 10] rfl 50 (qG3) (qG6) (HL5.out.get (.head _)) (by kernel_rfl) (by kernel_rfl) (by kernel_rfl) (by kernel_rfl) ?_; intro w6 g6 o6; have HL6 := Lib.hid (show Lg w w6 [(R2, (qG6), 50), (R1, (qG0 x a1 x.c.tk.length c1 a2 x.q.length c2 a3 x.t.length c3 a4 x.d.length c4 a5 x.g.length c5 x.s), 48)] [] from HL5.out.put 0 rfl g6 o6 (qGf ⟨Nat.ne_of_lt qR2_R1, (fun _ h => nomatch h)⟩) (fun _ h => nomatch h) rfl); clear g6 o6))
  exact bodyPost_ret (results_cell_row (p := 6) (ty := 50) (by kernel_rfl) _ _ (R2) 50 _ (0, 0) _ rfl (HL6.out.get (.head _)) Tryz.underlying50 rfl (by kernel_rfl)) rfl ⟨none, none, none, none, none, 0, 0, 0, 0, 0, rfl, ndZ_new HL6.out.below.size, HL6.out.below⟩
 have hd2 : (x.c.st != 2) = false := by simp [hst]
 have K := snd_at hb hv hst
 have ho : O = if 16 < x.q.length + (sndV x p l).length then (ndZ, 9) else (sndN x (sndV x p l) (sndS x.s (sndT p l)), 0) := by
  rw [HO.out, hN, if_neg h4, hb, hv]
  simp [hst]
 have HO2 := Lib.hid ho
 rw [hb] at HR
 rw [hv] at HV
 have HC := fun W hW => Lib.hid (l10Copy_any x a1 a2 a3 a4 a5 c1 c2 c3 c4 c5 W hW hs)
 have HE := fun W (hW : RsIn vlL 2 W b l) => Lib.hid (show Calls Tryz.prog 35 #[.int .i64 p, .slice b l.length d] W (fun e w' => e = .returned (.string (sndT p l)) ∧ Below W.heap.size W w') from l08Encode_any p b d l W hW hlen hv)
 have HD := fun W => Lib.hid (specDefOf_any p W)
 have HN := fun W => Lib.hid (l02Num_any (defD p).r p 255 x.c.ad W K.idb)
 have HCut := fun W (hc : cutB x.s (sndT p l) = true) => Lib.hid (l06Cut_any x.s (sndT p l) W hc)
 have HP := fun a' c' W h h' => Lib.hid (l03Put_any a2 a' c2 c' x.q (sndV x p l) W h K.q16 h' (by have := K.len; omega))
 have HQ2 := Lib.hid h.2.1
 have hsV : sndV x p l = sndC (defD p).r p x.c.ad (sndF x.s (sndT p l)) := rfl
 have hsz := K.ts
 have hT0 := K.t0
 have hT1 := K.t1
 have hLn := K.len
 have hsq := K.sq
 unfold DefOut at HD
 unfold idV at HN
 rw [hN] at HV HE ⊢
 clear HO ho hok hs hl hlen h hb hv hst K hN h4
 generalize sndT p l = T at *
 generalize hDS : (defD p).s = DS at *
 generalize hDR : (defD p).r = DR at *
 generalize hDP : (defD p).p = DP at *
 generalize hFN : (defD p).fs.length = FN at *
 generalize hM : idN DR p 255 x.c.ad = m at *
 generalize hVV : sndV x p l = VV at *
 have HVV := Lib.hid hsV
 have hsqn : 0 ≤ x.s + 1 ∧ x.s + 1 ≤ 8 := by omega
 have hwr : IntKind.i64.wrap (x.s + 1) = x.s + 1 := IntWalk.i64_in _ (by omega)
 clear hDS hDR hDP hFN hVV hsV
 have HM := Lib.hid hM
 clear hM
 obtain ⟨i0, hi, hz0, hz1, hz2⟩ := info_parts CansTo.info
 have HIc := Lib.hid (And.intro hi (And.intro hz0 (And.intro hz1 hz2)))
 obtain ⟨j0, hj, hy0, hy1, hy2⟩ := info_parts Cut.info
 have HIs := Lib.hid (And.intro hj (And.intro hy0 (And.intro hy1 hy2)))
 clear hi hz0 hz1 hz2 hj hy0 hy1 hy2
 unfold QOut at HP
 unfold NdOutNew ndOutV
 unfold ndV at *
 rcases Nat.lt_or_ge 8 T.size with h8 | h8
 rotate_left
 ·skip
  have hd8 : decide (8 < DS) = false := decide_eq_false (by omega)
  have hF : sndF x.s T = [T] := if_pos h8
  have hS : sndS x.s T = x.s := if_pos h8
  rw [hF] at HVV
  rw [hS] at HO2
  clear hF hS HCut
  go_enter Tryz.func8, Tryz.ntmps8
  go_wp2_with (first
   | (refine wpList_box_h rfl 48 (.tmp 0) rfl #[.int .i64 x.c.n.u, .int .i64 x.c.n.m, .int .i64 x.c.n.i, .int .i64 x.c.n.f, .int .i64 x.c.n.c, .int .i64 x.c.n.s, .int .i64 x.c.n.y, .bool x.c.n.a, .int .i64 x.c.ad, .int .i64 x.c.st, .int .i64 x.c.lf, .slice a1 x.c.tk.length c1, .slice a2 x.q.length c2, .slice a3 x.t.length c3, .slice a4 x.d.length c4, .slice a5 x.g.length c5, .int .i64 x.s] rfl ?_; intro w1 R1 e1 g1 b1; have HL1 := Lib.hid (show Lg w w1 [(R1, (qG0 x a1 x.c.tk.length c1 a2 x.q.length c2 a3 x.t.length c3 a4 x.d.length c4 a5 x.g.length c5 x.s), 48)] [] from (Lg.first w).box e1 g1 b1); clear g1 b1 e1)
   | (refine wpList_alloc_h rfl 50 rfl (.agg #[.int .i64 0, .int .i64 0, .int .i64 0, .int .i64 0, .int .i64 0, .int .i64 0, .int .i64 0, .bool false, .int .i64 0, .int .i64 0, .int .i64 0, .slice none 0 0, .slice none 0 0, .slice none 0 0, .slice none 0 0, .slice none 0 0, .int .i64 0, .int .i64 0]) (by kernel_rfl) #[.int .i64 0, .int .i64 0, .int .i64 0, .int .i64 0, .int .i64 0, .int .i64 0, .int .i64 0, .bool false, .int .i64 0, .int .i64 0, .int .i64 0, .slice none 0 0, .slice none 0 0, .slice none 0 0, .slice none 0 0, .slice none 0 0, .int .i64 0, .int .i64 0] rfl ?_; intro w2 R2 e2 g2 b2; have qR2_R1 : R1 < R2 := Nat.lt_of_lt_of_eq (HL1.out.lt (.head _)) e2; have HL2 := Lib.hid (show Lg w w2 [(R2, (qG3), 50), (R1, (qG0 x a1 x.c.tk.length c1 a2 x.q.length c2 a3 x.t.length c3 a4 x.d.length c4 a5 x.g.length c5 x.s), 48)] [] from HL1.out.box e2 g2 b2); clear g2 b2 e2)
   | (refine wpList_load_at (by kernel_rfl) 48 (.tmp 3) rfl (R1) 0 rfl 48 (qG0 x a1 x.c.tk.length c1 a2 x.q.length c2 a3 x.t.length c3 a4 x.d.length c4 a5 x.g.length c5 x.s) (0, 0) (HL2.out.get qGm1) [.int .i64 x.c.n.u, .int .i64 x.c.n.m, .int .i64 x.c.n.i, .int .i64 x.c.n.f, .int .i64 x.c.n.c, .int .i64 x.c.n.s, .int .i64 x.c.n.y, .bool x.c.n.a, .int .i64 x.c.ad, .int .i64 x.c.st, .int .i64 x.c.lf, .slice a1 x.c.tk.length c1, .slice a2 x.q.length c2, .slice a3 x.t.length c3, .slice a4 x.d.length c4, .slice a5 x.g.length c5, .int .i64 x.s] rfl _ Tryz.underlying48 rfl (by kernel_rfl) ?_))
  refine ((HR _ (HI.out.kept HL2.out.below)).out).mono ?_
  rintro e w3 ⟨rfl, h⟩
  have HL3 := Lib.hid (show Lg w w3 [(R2, (qG3), 50), (R1, (qG0 x a1 x.c.tk.length c1 a2 x.q.length c2 a3 x.t.length c3 a4 x.d.length c4 a5 x.g.length c5 x.s), 48)] [] from HL2.out.kept h)
  clear h
  go_wp2_with fail
  refine ((HV _ (HL.out.kept HL3.out.below)).out).mono ?_
  rintro e w4 ⟨rfl, h⟩
  have HL4 := Lib.hid (show Lg w w4 [(R2, (qG3), 50), (R1, (qG0 x a1 x.c.tk.length c1 a2 x.q.length c2 a3 x.t.length c3 a4 x.d.length c4 a5 x.g.length c5 x.s), 48)] [] from HL3.out.kept h)
  clear h
  go_wp2_with (first
   | (refine wpList_load_one (by kernel_rfl) 2 (.tmp 30) rfl (R1) 9 rfl 48 (qG0 x a1 x.c.tk.length c1 a2 x.q.length c2 a3 x.t.length c3 a4 x.d.length c4 a5 x.g.length c5 x.s) (0, 0) (HL4.out.get qGm1) (.int .i64 x.c.st) rfl _ Tryz.underlying2 rfl (by kernel_rfl) ?_))
  refine ((HD _).out).mono ?_
  rintro e w5 ⟨fa, rfl, -, h⟩
  have HL5 := Lib.hid (show Lg w w5 [(R2, (qG3), 50), (R1, (qG0 x a1 x.c.tk.length c1 a2 x.q.length c2 a3 x.t.length c3 a4 x.d.length c4 a5 x.g.length c5 x.s), 48)] [] from HL4.out.kept h)
  clear h
  go_wp2_with (first
   | (refine wpList_alloc_h rfl 81 rfl (.agg #[.int .i64 0, .int .i64 0, .int .i64 0, .slice none 0 0]) (by kernel_rfl) #[.int .i64 0, .int .i64 0, .int .i64 0, .slice none 0 0] rfl ?_; intro w6 R6 e6 g6 b6; have qR6_R2 : R2 < R6 := Nat.lt_of_lt_of_eq (HL5.out.lt (.head _)) e6; have qR6_R1 : R1 < R6 := Nat.lt_of_lt_of_eq (HL5.out.lt qGm1) e6; have HL6 := Lib.hid (show Lg w w6 [(R6, #[.int .i64 0, .int .i64 0, .int .i64 0, .slice none 0 0], 81), (R2, (qG3), 50), (R1, (qG0 x a1 x.c.tk.length c1 a2 x.q.length c2 a3 x.t.length c3 a4 x.d.length c4 a5 x.g.length c5 x.s), 48)] [] from HL5.out.box e6 g6 b6); clear g6 b6 e6)
   | (refine wpList_put_at rfl 81 (.tmp 7) (.tmp 35) rfl rfl (R6) 0 rfl _ rfl #[.int .i64 DP, .int .i64 DS, .int .i64 DR, .slice fa FN FN] rfl 81 #[.int .i64 0, .int .i64 0, .int .i64 0, .slice none 0 0] #[.int .i64 DP, .int .i64 DS, .int .i64 DR, .slice fa FN FN] (HL6.out.get (.head _)) (by kernel_rfl) (by kernel_rfl) (by kernel_rfl) (by kernel_rfl) ?_; intro w7 g7 o7; have HL7 := Lib.hid (show Lg w w7 [(R6, #[.int .i64 DP, .int .i64 DS, .int .i64 DR, .slice fa FN FN], 81), (R2, (qG3), 50), (R1, (qG0 x a1 x.c.tk.length c1 a2 x.q.length c2 a3 x.t.length c3 a4 x.d.length c4 a5 x.g.length c5 x.s), 48)] [] from HL6.out.put 0 rfl g7 o7 (qGf ⟨Nat.ne_of_lt qR6_R2, (qGf ⟨Nat.ne_of_lt qR6_R1, (fun _ h => nomatch h)⟩)⟩) (fun _ h => nomatch h) rfl); clear g7 o7)
   | (refine wpList_load_one rfl 2 (.tmp 36) rfl (R6) 2 rfl 81 #[.int .i64 DP, .int .i64 DS, .int .i64 DR, .slice fa FN FN] (0, 0) (HL7.out.get (.head _)) (.int .i64 DR) rfl _ Tryz.underlying2 rfl (by kernel_rfl) ?_)
   | (refine wpList_load_one rfl 2 (.tmp 40) rfl (R1) 8 rfl 48 (qG0 x a1 x.c.tk.length c1 a2 x.q.length c2 a3 x.t.length c3 a4 x.d.length c4 a5 x.g.length c5 x.s) (0, 0) (HL7.out.get qGm2) (.int .i64 x.c.ad) rfl _ Tryz.underlying2 rfl (by kernel_rfl) ?_))
  refine ((HN _).out).mono ?_
  rintro e w8 ⟨rfl, h⟩
  have HL8 := Lib.hid (show Lg w w8 [(R6, #[.int .i64 DP, .int .i64 DS, .int .i64 DR, .slice fa FN FN], 81), (R2, (qG3), 50), (R1, (qG0 x a1 x.c.tk.length c1 a2 x.q.length c2 a3 x.t.length c3 a4 x.d.length c4 a5 x.g.length c5 x.s), 48)] [] from HL7.out.kept h)
  clear h
  go_wp2_with fail
  refine ((HE _ (HL.out.kept HL8.out.below)).out).mono ?_
  rintro e w9 ⟨rfl, h⟩
  have HL9 := Lib.hid (show Lg w w9 [(R6, #[.int .i64 DP, .int .i64 DS, .int .i64 DR, .slice fa FN FN], 81), (R2, (qG3), 50), (R1, (qG0 x a1 x.c.tk.length c1 a2 x.q.length c2 a3 x.t.length c3 a4 x.d.length c4 a5 x.g.length c5 x.s), 48)] [] from HL8.out.kept h)
  clear h
  go_wp2_with (first
   | (refine wpList_lit1 strL_len rfl 87 (.tmp 46) rfl 9 j0 Tryz.underlying87 HIs.out.1 _ HIs.out.2.1 HIs.out.2.2.1 T (.string T) rfl rfl rfl (by decide) (by decide) ?_; intro w10 G10 e10 hin10 b10; have HT10 := Lib.hid hin10; have HL10 := Lib.hid (show Lg w w10 [(R6, #[.int .i64 DP, .int .i64 DS, .int .i64 DR, .slice fa FN FN], 81), (R2, (qG3), 50), (R1, (qG0 x a1 x.c.tk.length c1 a2 x.q.length c2 a3 x.t.length c3 a4 x.d.length c4 a5 x.g.length c5 x.s), 48)] [] from HL9.out.kept b10); clear e10 hin10 b10)
   | (refine wpList_load_one rfl 2 (.tmp 48) rfl (R1) 16 rfl 48 (qG0 x a1 x.c.tk.length c1 a2 x.q.length c2 a3 x.t.length c3 a4 x.d.length c4 a5 x.g.length c5 x.s) (0, 0) (HL10.out.get qGm2) (.int .i64 x.s) rfl _ Tryz.underlying2 rfl (by kernel_rfl) ?_)
   | (refine wpList_load_one rfl 2 (.tmp 50) rfl (R6) 1 rfl 81 #[.int .i64 DP, .int .i64 DS, .int .i64 DR, .slice fa FN FN] (0, 0) (HL10.out.get (.head _)) (.int .i64 DS) rfl _ Tryz.underlying2 rfl (by kernel_rfl) ?_)
   | (refine wpList_lit0 canL 2 rfl 41 rfl 66 i0 Tryz.underlying41 HIc.out.1 ?_; intro w11 G11 e11 hok11 b11; have HE11 := Lib.hid e11; have HO11 := Lib.hid hok11; have HB11 := Lib.hid b11; clear e11 hok11 b11))
  have HFr := Lib.hid HT10.out
  obtain ⟨F, hF⟩ : ∃ F, [T] = F := ⟨_, rfl⟩
  have hFn : F.length = 1 := by rw [← hF]; rfl
  obtain ⟨FV, hFA⟩ : ∃ a, (some ⟨G10, 0, none⟩ : Option Addr) = a := ⟨_, rfl⟩
  have HFU := Lib.hid (show RsIn strL 1 w10 FV F from by rw [← hF, ← hFA]; exact HFr.out)
  rw [hFA]
  rw [hF] at HVV
  clear HFr hF hFA HT10
  have HFn := Lib.hid hFn
  have hn32 : 1 ≤ 32 := by
   have e1 := congrArg List.length HVV.out
   rw [sndC_len, hFn] at e1
   omega
  have HVn := Lib.hid (show VV.length = 1 from by rw [HVV.out, sndC_len]; exact hFn)
  clear hFn
  go_loopw [11, 12] (fun v i wr => ∃ (k : Nat) (V : Value), i = .int .i64 (k : Int) ∧ V = v ∧ k ≤ 1 ∧ OwnIn canL 2 66 w10.heap.size wr.heap.size wr V (sndC DR p x.c.ad (F.take k)) ∧ Below w10.heap.size w10 wr) (fun v i _ => 1 - (intOf i).toNat)
  case atStart => exact ⟨0, _, rfl, rfl, by omega, by rw [HE11.out]; exact HO11.out, HB11.out⟩
  case round =>
   obtain ⟨k, V, rfl, rfl, hk, hown, hb⟩ := hrel
   have HOw := Lib.hid hown
   clear hown
   by_cases hkn : k < 1
   ·have hkl : k < F.length := by have := HFn.out; omega
    have hi1 : (0 : Int) ≤ (k : Int) := by omega
    have hi2 : (k : Int) < (1 : Int) := by omega
    obtain ⟨bb, oo, rfl, hlt, hc⟩ := HFU.out.at (by omega)
    obtain ⟨y, hy⟩ : ∃ y, F[k]? = some y := ⟨_, List.getElem?_eq_getElem hkl⟩
    have h0 := hc k y hy 0 _ rfl
    rw [Nat.mul_one, Nat.add_zero] at h0
    have HCy := Lib.hid ((hb.cell (p := ⟨bb, oo + k, none⟩) hlt).trans h0)
    have HX := Lib.hid (show sndC DR p x.c.ad (F.take (k + 1)) = sndC DR p x.c.ad (F.take k) ++ [(m, y)] from by rw [← HM.out]; exact sndC_take hy)
    have hlen : (sndC DR p x.c.ad (F.take k)).length ≤ 32 := by rw [sndC_len, List.length_take]; omega
    have HLen := Lib.hid hlen
    clear hc h0 hlen hy
    generalize sndC DR p x.c.ad (F.take k) = C at *
    obtain ⟨LO, eLO⟩ : ∃ z, w10.heap.size = z := ⟨_, rfl⟩
    obtain ⟨HI1, eHI⟩ : ∃ z, wr.heap.size = z := ⟨_, rfl⟩
    have HL1 := Lib.hid (show Lg w10 wr [] [(LO, HI1, fun W => OwnIn canL 2 66 LO HI1 W V C)] from (by
     subst eLO eHI
     exact (⟨hb, fun r hr => (by cases hr), fun n hn => (by cases hn)⟩ : Lg w10 wr [] []).addNew HOw.out.solid (Nat.le_refl _) hb.size (Nat.le_refl _)))
    have HLO := Lib.hid eLO
    clear eLO eHI HOw
    go_wp2_with (first
     | (refine wpList_load_one1 rfl 9 (.tmp 74) rfl bb (oo + k) rfl (.string y) HCy.out _ Tryz.underlying9 rfl ?_)
     | (refine wpList_lit1 canL_len rfl 41 (.tmp 76) rfl 66 i0 Tryz.underlying41 HIc.out.1 _ HIc.out.2.1 HIc.out.2.2.1 (m, y) (.agg #[.int .i64 m, .string y]) rfl rfl rfl (by decide) (by decide) ?_; intro w20 R20 e20 hin20 b20; have HR20 := Lib.hid hin20; have HL20 := Lib.hid (HL1.out.kept b20); clear e20 hin20 b20)
     | (at_builtin; refine wpList_append_rs canL_len canL_one rfl (.tmp 70) (.tmp 77) 41 rfl 66 i0 _ 24 Tryz.underlying41 HIc.out.1 HIc.out.2.1 HIc.out.2.2.1 HIc.out.2.2.2 rfl (by decide) LO HI1 V C rfl (HL20.out.at (.head _)) _ 1 [(m, y)] rfl HR20.out (by have := HLen.out; unfold maxLen; show _ + 1 ≤ _; omega) (by have := HLen.out; show (_ + 1) * 24 ≤ _; omega) (Nat.le_trans (HL20.out.hi (.head _)).1 (HL20.out.hi (.head _)).2) ?_; intro v21 w21 hown21 ho21; have HO21 := Lib.hid hown21; have HU21 := Lib.hid ho21; clear hown21 ho21))
    go_roundw
    case rel =>
     refine ⟨k + 1, _, by go_num, rfl, by omega, ?_, HU21.out.below HL20.out.below (HL20.out.lo (.head _)) HL20.out.below.size⟩
     have h := HO21.out
     rw [HX.out]
     have e := HLO.out
     subst e
     exact h
    case measure => simp [intOf]; omega
   ·have hge : 1 ≤ k := by omega
    have HV2 := Lib.hid (show sndC DR p x.c.ad (F.take k) = VV from by rw [List.take_of_length_le (by have := HFn.out; omega), ← HVV.out])
    obtain ⟨y0, d0, rfl, -, hn0⟩ := HOw.out.new canL_len
    rw [HV2.out] at hn0 ⊢
    obtain ⟨L0, eL0⟩ : ∃ z, w10.heap.size = z := ⟨_, rfl⟩
    obtain ⟨H0, eH0⟩ : ∃ z, wr.heap.size = z := ⟨_, rfl⟩
    rw [eL0, eH0] at hn0
    clear HOw HV2 HVV HFU HFn HM
    have HQ0 := Lib.hid hn0.cans.cans
    have HL50 := Lib.hid (show Lg w wr [(R6, #[.int .i64 DP, .int .i64 DS, .int .i64 DR, .slice fa FN FN], 81), (R2, (qG3), 50), (R1, (qG0 x a1 x.c.tk.length c1 a2 x.q.length c2 a3 x.t.length c3 a4 x.d.length c4 a5 x.g.length c5 x.s), 48)] [] from HL10.out.kept hb)
    clear hn0 hb
    go_wp2_with (first
     | (refine wpList_load_at (by kernel_rfl) 43 (.tmp 79) rfl (R1) 12 rfl 48 (qG0 x a1 x.c.tk.length c1 a2 x.q.length c2 a3 x.t.length c3 a4 x.d.length c4 a5 x.g.length c5 x.s) (0, 0) (HL50.out.get qGm2) [.slice a2 x.q.length c2] rfl _ Tryz.underlying43 rfl (by kernel_rfl) ?_))
    by_cases h16 : 16 < x.q.length + VV.length
    ·skip
     have ho : O = (ndZ, 9) := by rw [HO2.out, if_pos h16]
     rw [if_pos h16] at HP
     clear HO2
     subst ho
     go_wp2_with fail
     refine ((HP _ _ _ (HQ2.out.kept HL50.out.below) HQ0.out).out).mono ?_
     rintro e w51 ⟨z1, u1, rfl, -, -, h⟩
     have HL51 := Lib.hid (show Lg w w51 [(R6, #[.int .i64 DP, .int .i64 DS, .int .i64 DR, .slice fa FN FN], 81), (R2, (qG3), 50), (R1, (qG0 x a1 x.c.tk.length c1 a2 x.q.length c2 a3 x.t.length c3 a4 x.d.length c4 a5 x.g.length c5 x.s), 48)] [] from HL50.out.kept h)
     clear h
     go_wp2_with (first
      | (refine wpList_alloc_h rfl 90 rfl (.agg #[.slice none 0 0, .int .i64 0, .string ByteArray.empty, .int .i64 0]) (by kernel_rfl) #[.slice none 0 0, .int .i64 0, .string ByteArray.empty, .int .i64 0] rfl ?_; intro w52 R52 e52 g52 b52; have qR52_R6 : R6 < R52 := Nat.lt_of_lt_of_eq (HL51.out.lt (.head _)) e52; have qR52_R2 : R2 < R52 := Nat.lt_of_lt_of_eq (HL51.out.lt qGm1) e52; have qR52_R1 : R1 < R52 := Nat.lt_of_lt_of_eq (HL51.out.lt qGm2) e52; have HL52 := Lib.hid (show Lg w w52 [(R52, (qG7), 90), (R6, #[.int .i64 DP, .int .i64 DS, .int .i64 DR, .slice fa FN FN], 81), (R2, (qG3), 50), (R1, (qG0 x a1 x.c.tk.length c1 a2 x.q.length c2 a3 x.t.length c3 a4 x.d.length c4 a5 x.g.length c5 x.s), 48)] [] from HL51.out.box e52 g52 b52); clear g52 b52 e52)
      | (refine wpList_put_at rfl 90 (.tmp 13) (.tmp 82) rfl rfl (R52) 0 rfl (.agg #[.slice z1 ([] : List (Int × ByteArray)).length u1, .int .i64 0, .string ⟨#[]⟩, .int .i64 9]) rfl #[.slice z1 ([] : List (Int × ByteArray)).length u1, .int .i64 0, .string ⟨#[]⟩, .int .i64 9] rfl 90 (qG7) (qG8 z1 ([] : List (Int × ByteArray)).length u1) (HL52.out.get (.head _)) (by kernel_rfl) (by kernel_rfl) (by kernel_rfl) (by kernel_rfl) ?_; intro w53 g53 o53; have HL53 := Lib.hid (show Lg w w53 [(R52, (qG8 z1 ([] : List (Int × ByteArray)).length u1), 90), (R6, #[.int .i64 DP, .int .i64 DS, .int .i64 DR, .slice fa FN FN], 81), (R2, (qG3), 50), (R1, (qG0 x a1 x.c.tk.length c1 a2 x.q.length c2 a3 x.t.length c3 a4 x.d.length c4 a5 x.g.length c5 x.s), 48)] [] from HL52.out.put 0 rfl g53 o53 (qGf ⟨Nat.ne_of_lt qR52_R6, (qGf ⟨Nat.ne_of_lt qR52_R2, (qGf ⟨Nat.ne_of_lt qR52_R1, (fun _ h => nomatch h)⟩)⟩)⟩) (fun _ h => nomatch h) rfl); clear g53 o53)
      | (refine wpList_load_one rfl 2 (.tmp 83) rfl (R52) 3 rfl 90 (qG8 z1 ([] : List (Int × ByteArray)).length u1) (0, 0) (HL53.out.get (.head _)) (.int .i64 9) rfl _ Tryz.underlying2 rfl (by kernel_rfl) ?_)
      | (refine wpList_load_one rfl 2 (.tmp 86) rfl (R52) 3 rfl 90 (qG8 z1 ([] : List (Int × ByteArray)).length u1) (0, 0) (HL53.out.get (.head _)) (.int .i64 9) rfl _ Tryz.underlying2 rfl (by kernel_rfl) ?_))
     refine (l10Ill_any 9 _).mono ?_
     rintro e w54 ⟨rfl, h⟩
     have HL54 := Lib.hid (show Lg w w54 [(R52, (qG8 z1 ([] : List (Int × ByteArray)).length u1), 90), (R6, #[.int .i64 DP, .int .i64 DS, .int .i64 DR, .slice fa FN FN], 81), (R2, (qG3), 50), (R1, (qG0 x a1 x.c.tk.length c1 a2 x.q.length c2 a3 x.t.length c3 a4 x.d.length c4 a5 x.g.length c5 x.s), 48)] [] from HL53.out.kept h)
     clear h
     go_wp2_with (first
      | (refine wpList_put_at rfl 50 (.tmp 6) (.tmp 88) rfl rfl (R2) 0 rfl _ rfl #[.int .i64 0, .int .i64 0, .int .i64 0, .int .i64 0, .int .i64 0, .int .i64 0, .int .i64 0, .bool false, .int .i64 0, .int .i64 0, .int .i64 0, .slice none 0 0, .slice none 0 0, .slice none 0 0, .slice none 0 0, .slice none 0 0, .int .i64 0, .int .i64 9] rfl 50 (qG3) (qG9) (HL54.out.get qGm2) (by kernel_rfl) (by kernel_rfl) (by kernel_rfl) (by kernel_rfl) ?_; intro w55 g55 o55; have HL55 := Lib.hid (show Lg w w55 [(R52, (qG8 z1 ([] : List (Int × ByteArray)).length u1), 90), (R6, #[.int .i64 DP, .int .i64 DS, .int .i64 DR, .slice fa FN FN], 81), (R2, (qG9), 50), (R1, (qG0 x a1 x.c.tk.length c1 a2 x.q.length c2 a3 x.t.length c3 a4 x.d.length c4 a5 x.g.length c5 x.s), 48)] [] from HL54.out.put 2 rfl g55 o55 (qGf ⟨Nat.ne_of_gt qR52_R2, (qGf ⟨Nat.ne_of_gt qR6_R2, (qGf ⟨Nat.ne_of_lt qR2_R1, (fun _ h => nomatch h)⟩)⟩)⟩) (fun _ h => nomatch h) rfl); clear g55 o55))
     exact bodyPost_ret (results_cell_row (p := 6) (ty := 50) (by kernel_rfl) _ _ (R2) 50 _ (0, 0) _ rfl (HL55.out.get qGm2) Tryz.underlying50 rfl (by kernel_rfl)) rfl ⟨none, none, none, none, none, ⟨0, 0, 0, 0, 0, rfl⟩, ndZ_new HL55.out.below.size, HL55.out.below⟩
    ·skip
     have ho : O = (sndN x VV (x.s), 0) := by rw [HO2.out, if_neg h16]
     rw [if_neg h16] at HP
     clear HO2
     subst ho
     obtain ⟨QL, hQL⟩ : ∃ L, x.q ++ VV = L := ⟨_, rfl⟩
     rw [hQL] at HP
     go_wp2_with fail
     refine ((HP _ _ _ (HQ2.out.kept HL50.out.below) HQ0.out).out).mono ?_
     rintro e w51 ⟨z1, u1, rfl, -, hn, h⟩
     obtain ⟨L51, e51⟩ : ∃ x, wr.heap.size = x := ⟨_, rfl⟩
     obtain ⟨H51, f51⟩ : ∃ x, w51.heap.size = x := ⟨_, rfl⟩
     have qL51_R6 : R6 < L51 := Nat.lt_of_lt_of_eq (HL50.out.lt (.head _)) e51
     have qL51_R2 : R2 < L51 := Nat.lt_of_lt_of_eq (HL50.out.lt qGm1) e51
     have qL51_R1 : R1 < L51 := Nat.lt_of_lt_of_eq (HL50.out.lt qGm2) e51
     have qH51_L51 : L51 ≤ H51 := (by rw [← e51, ← f51]; exact h.size)
     have HL51 := Lib.hid (show Lg w w51 [(R6, #[.int .i64 DP, .int .i64 DS, .int .i64 DR, .slice fa FN FN], 81), (R2, (qG3), 50), (R1, (qG0 x a1 x.c.tk.length c1 a2 x.q.length c2 a3 x.t.length c3 a4 x.d.length c4 a5 x.g.length c5 x.s), 48)] [(L51, H51, (fun W => NewIn L51 H51 W z1 QL))] from HL50.out.made e51 f51 h (by rw [← e51, ← f51]; exact hn.solid))
     clear h hn e51 f51
     go_wp2_with (first
      | (refine wpList_alloc_h rfl 90 rfl (.agg #[.slice none 0 0, .int .i64 0, .string ByteArray.empty, .int .i64 0]) (by kernel_rfl) #[.slice none 0 0, .int .i64 0, .string ByteArray.empty, .int .i64 0] rfl ?_; intro w52 R52 e52 g52 b52; have qR52_R6 : R6 < R52 := Nat.lt_of_lt_of_eq (HL51.out.lt (.head _)) e52; have qR52_R2 : R2 < R52 := Nat.lt_of_lt_of_eq (HL51.out.lt qGm1) e52; have qR52_R1 : R1 < R52 := Nat.lt_of_lt_of_eq (HL51.out.lt qGm2) e52; have qR52_H51 : H51 ≤ R52 := Nat.le_trans (HL51.out.hi (.head _)).2 (Nat.le_of_eq e52); have HL52 := Lib.hid (show Lg w w52 [(R52, (qG7), 90), (R6, #[.int .i64 DP, .int .i64 DS, .int .i64 DR, .slice fa FN FN], 81), (R2, (qG3), 50), (R1, (qG0 x a1 x.c.tk.length c1 a2 x.q.length c2 a3 x.t.length c3 a4 x.d.length c4 a5 x.g.length c5 x.s), 48)] [(L51, H51, (fun W => NewIn L51 H51 W z1 QL))] from HL51.out.box e52 g52 b52); clear g52 b52 e52)
      | (refine wpList_put_at rfl 90 (.tmp 13) (.tmp 82) rfl rfl (R52) 0 rfl (.agg #[.slice z1 QL.length u1, .int .i64 0, .string ⟨#[]⟩, .int .i64 0]) rfl #[.slice z1 QL.length u1, .int .i64 0, .string ⟨#[]⟩, .int .i64 0] rfl 90 (qG7) (qG10 z1 QL.length u1) (HL52.out.get (.head _)) (by kernel_rfl) (by kernel_rfl) (by kernel_rfl) (by kernel_rfl) ?_; intro w53 g53 o53; have HL53 := Lib.hid (show Lg w w53 [(R52, (qG10 z1 QL.length u1), 90), (R6, #[.int .i64 DP, .int .i64 DS, .int .i64 DR, .slice fa FN FN], 81), (R2, (qG3), 50), (R1, (qG0 x a1 x.c.tk.length c1 a2 x.q.length c2 a3 x.t.length c3 a4 x.d.length c4 a5 x.g.length c5 x.s), 48)] [(L51, H51, (fun W => NewIn L51 H51 W z1 QL))] from HL52.out.put 0 rfl g53 o53 (qGf ⟨Nat.ne_of_lt qR52_R6, (qGf ⟨Nat.ne_of_lt qR52_R2, (qGf ⟨Nat.ne_of_lt qR52_R1, (fun _ h => nomatch h)⟩)⟩)⟩) (qGf ⟨.inl qR52_H51, (fun _ h => nomatch h)⟩) rfl); clear g53 o53)
      | (refine wpList_load_one rfl 2 (.tmp 83) rfl (R52) 3 rfl 90 (qG10 z1 QL.length u1) (0, 0) (HL53.out.get (.head _)) (.int .i64 0) rfl _ Tryz.underlying2 rfl (by kernel_rfl) ?_)
      | (refine wpList_load_at rfl 48 (.tmp 3) rfl (R1) 0 rfl 48 (qG0 x a1 x.c.tk.length c1 a2 x.q.length c2 a3 x.t.length c3 a4 x.d.length c4 a5 x.g.length c5 x.s) (0, 0) (HL53.out.get qGm3) [.int .i64 x.c.n.u, .int .i64 x.c.n.m, .int .i64 x.c.n.i, .int .i64 x.c.n.f, .int .i64 x.c.n.c, .int .i64 x.c.n.s, .int .i64 x.c.n.y, .bool x.c.n.a, .int .i64 x.c.ad, .int .i64 x.c.st, .int .i64 x.c.lf, .slice a1 x.c.tk.length c1, .slice a2 x.q.length c2, .slice a3 x.t.length c3, .slice a4 x.d.length c4, .slice a5 x.g.length c5, .int .i64 x.s] rfl _ Tryz.underlying48 rfl (by kernel_rfl) ?_))
     refine ((HC _ (HI.out.kept HL53.out.below)).out).mono ?_
     rintro e w54 ⟨y1, y2, y3, y4, y5, d1, d2, d3, d4, d5, rfl, hn, h⟩
     obtain ⟨L54, e54⟩ : ∃ x, w53.heap.size = x := ⟨_, rfl⟩
     obtain ⟨H54, f54⟩ : ∃ x, w54.heap.size = x := ⟨_, rfl⟩
     have qL54_R52 : R52 < L54 := Nat.lt_of_lt_of_eq (HL53.out.lt (.head _)) e54
     have qL54_R6 : R6 < L54 := Nat.lt_of_lt_of_eq (HL53.out.lt qGm1) e54
     have qL54_R2 : R2 < L54 := Nat.lt_of_lt_of_eq (HL53.out.lt qGm2) e54
     have qL54_R1 : R1 < L54 := Nat.lt_of_lt_of_eq (HL53.out.lt qGm3) e54
     have qL54_H51 : H51 ≤ L54 := Nat.le_trans (HL53.out.hi (.head _)).2 (Nat.le_of_eq e54)
     have qH54_L54 : L54 ≤ H54 := (by rw [← e54, ← f54]; exact h.size)
     have HL54 := Lib.hid (show Lg w w54 [(R52, (qG10 z1 QL.length u1), 90), (R6, #[.int .i64 DP, .int .i64 DS, .int .i64 DR, .slice fa FN FN], 81), (R2, (qG3), 50), (R1, (qG0 x a1 x.c.tk.length c1 a2 x.q.length c2 a3 x.t.length c3 a4 x.d.length c4 a5 x.g.length c5 x.s), 48)] [(L54, H54, (fun W => NdNew L54 H54 W y1 y2 y3 y4 y5 x)), (L51, H51, (fun W => NewIn L51 H51 W z1 QL))] from HL53.out.made e54 f54 h (by rw [← e54, ← f54]; exact hn.solid))
     clear h hn e54 f54
     go_wp2_with (first
      | (refine wpList_alloc_h rfl 48 rfl (.agg #[.int .i64 0, .int .i64 0, .int .i64 0, .int .i64 0, .int .i64 0, .int .i64 0, .int .i64 0, .bool false, .int .i64 0, .int .i64 0, .int .i64 0, .slice none 0 0, .slice none 0 0, .slice none 0 0, .slice none 0 0, .slice none 0 0, .int .i64 0]) (by kernel_rfl) #[.int .i64 0, .int .i64 0, .int .i64 0, .int .i64 0, .int .i64 0, .int .i64 0, .int .i64 0, .bool false, .int .i64 0, .int .i64 0, .int .i64 0, .slice none 0 0, .slice none 0 0, .slice none 0 0, .slice none 0 0, .slice none 0 0, .int .i64 0] rfl ?_; intro w55 R55 e55 g55 b55; have qR55_R52 : R52 < R55 := Nat.lt_of_lt_of_eq (HL54.out.lt (.head _)) e55; have qR55_R6 : R6 < R55 := Nat.lt_of_lt_of_eq (HL54.out.lt qGm1) e55; have qR55_R2 : R2 < R55 := Nat.lt_of_lt_of_eq (HL54.out.lt qGm2) e55; have qR55_R1 : R1 < R55 := Nat.lt_of_lt_of_eq (HL54.out.lt qGm3) e55; have qR55_H54 : H54 ≤ R55 := Nat.le_trans (HL54.out.hi (.head _)).2 (Nat.le_of_eq e55); have qR55_H51 : H51 ≤ R55 := Nat.le_trans (HL54.out.hi qGm1).2 (Nat.le_of_eq e55); have HL55 := Lib.hid (show Lg w w55 [(R55, (qG1), 48), (R52, (qG10 z1 QL.length u1), 90), (R6, #[.int .i64 DP, .int .i64 DS, .int .i64 DR, .slice fa FN FN], 81), (R2, (qG3), 50), (R1, (qG0 x a1 x.c.tk.length c1 a2 x.q.length c2 a3 x.t.length c3 a4 x.d.length c4 a5 x.g.length c5 x.s), 48)] [(L54, H54, (fun W => NdNew L54 H54 W y1 y2 y3 y4 y5 x)), (L51, H51, (fun W => NewIn L51 H51 W z1 QL))] from HL54.out.box e55 g55 b55); clear g55 b55 e55)
      | (refine wpList_put_at rfl 48 (.tmp 14) (.tmp 90) rfl rfl (R55) 0 rfl _ rfl #[.int .i64 x.c.n.u, .int .i64 x.c.n.m, .int .i64 x.c.n.i, .int .i64 x.c.n.f, .int .i64 x.c.n.c, .int .i64 x.c.n.s, .int .i64 x.c.n.y, .bool x.c.n.a, .int .i64 x.c.ad, .int .i64 x.c.st, .int .i64 x.c.lf, .slice y1 x.c.tk.length d1, .slice y2 x.q.length d2, .slice y3 x.t.length d3, .slice y4 x.d.length d4, .slice y5 x.g.length d5, .int .i64 x.s] rfl 48 (qG1) (qG0 x y1 x.c.tk.length d1 y2 x.q.length d2 y3 x.t.length d3 y4 x.d.length d4 y5 x.g.length d5 x.s) (HL55.out.get (.head _)) (by kernel_rfl) (by kernel_rfl) (by kernel_rfl) (by kernel_rfl) ?_; intro w56 g56 o56; have HL56 := Lib.hid (show Lg w w56 [(R55, (qG0 x y1 x.c.tk.length d1 y2 x.q.length d2 y3 x.t.length d3 y4 x.d.length d4 y5 x.g.length d5 x.s), 48), (R52, (qG10 z1 QL.length u1), 90), (R6, #[.int .i64 DP, .int .i64 DS, .int .i64 DR, .slice fa FN FN], 81), (R2, (qG3), 50), (R1, (qG0 x a1 x.c.tk.length c1 a2 x.q.length c2 a3 x.t.length c3 a4 x.d.length c4 a5 x.g.length c5 x.s), 48)] [(L54, H54, (fun W => NdNew L54 H54 W y1 y2 y3 y4 y5 x)), (L51, H51, (fun W => NewIn L51 H51 W z1 QL))] from HL55.out.put 0 rfl g56 o56 (qGf ⟨Nat.ne_of_lt qR55_R52, (qGf ⟨Nat.ne_of_lt qR55_R6, (qGf ⟨Nat.ne_of_lt qR55_R2, (qGf ⟨Nat.ne_of_lt qR55_R1, (fun _ h => nomatch h)⟩)⟩)⟩)⟩) (qGf ⟨.inl qR55_H54, (qGf ⟨.inl qR55_H51, (fun _ h => nomatch h)⟩)⟩) rfl); clear g56 o56)
      | (refine wpList_load_at rfl 43 (.tmp 91) rfl (R52) 0 rfl 90 (qG10 z1 QL.length u1) (0, 0) (HL56.out.get qGm1) [.slice z1 QL.length u1] rfl _ Tryz.underlying43 rfl (by kernel_rfl) ?_)
      | (refine wpList_put_at rfl 43 (.tmp 93) (.tmp 92) rfl rfl (R55) 12 rfl (.agg #[.slice z1 QL.length u1]) rfl #[.slice z1 QL.length u1] rfl 48 (qG0 x y1 x.c.tk.length d1 y2 x.q.length d2 y3 x.t.length d3 y4 x.d.length d4 y5 x.g.length d5 x.s) (qG0 x y1 x.c.tk.length d1 z1 QL.length u1 y3 x.t.length d3 y4 x.d.length d4 y5 x.g.length d5 x.s) (HL56.out.get (.head _)) (by kernel_rfl) (by kernel_rfl) (by kernel_rfl) (by kernel_rfl) ?_; intro w57 g57 o57; have HL57 := Lib.hid (show Lg w w57 [(R55, (qG0 x y1 x.c.tk.length d1 z1 QL.length u1 y3 x.t.length d3 y4 x.d.length d4 y5 x.g.length d5 x.s), 48), (R52, (qG10 z1 QL.length u1), 90), (R6, #[.int .i64 DP, .int .i64 DS, .int .i64 DR, .slice fa FN FN], 81), (R2, (qG3), 50), (R1, (qG0 x a1 x.c.tk.length c1 a2 x.q.length c2 a3 x.t.length c3 a4 x.d.length c4 a5 x.g.length c5 x.s), 48)] [(L54, H54, (fun W => NdNew L54 H54 W y1 y2 y3 y4 y5 x)), (L51, H51, (fun W => NewIn L51 H51 W z1 QL))] from HL56.out.put 0 rfl g57 o57 (qGf ⟨Nat.ne_of_lt qR55_R52, (qGf ⟨Nat.ne_of_lt qR55_R6, (qGf ⟨Nat.ne_of_lt qR55_R2, (qGf ⟨Nat.ne_of_lt qR55_R1, (fun _ h => nomatch h)⟩)⟩)⟩)⟩) (qGf ⟨.inl qR55_H54, (qGf ⟨.inl qR55_H51, (fun _ h => nomatch h)⟩)⟩) rfl); clear g57 o57)
      | (refine wpList_put_at rfl 2 (.tmp 95) (.tmp 94) rfl rfl (R55) 16 rfl (.int .i64 (x.s)) rfl #[.int .i64 (x.s)] rfl 48 (qG0 x y1 x.c.tk.length d1 z1 QL.length u1 y3 x.t.length d3 y4 x.d.length d4 y5 x.g.length d5 x.s) (qG0 x y1 x.c.tk.length d1 z1 QL.length u1 y3 x.t.length d3 y4 x.d.length d4 y5 x.g.length d5 (x.s)) (HL57.out.get (.head _)) (by kernel_rfl) (by kernel_rfl) (by kernel_rfl) (by kernel_rfl) ?_; intro w58 g58 o58; have HL58 := Lib.hid (show Lg w w58 [(R55, (qG0 x y1 x.c.tk.length d1 z1 QL.length u1 y3 x.t.length d3 y4 x.d.length d4 y5 x.g.length d5 (x.s)), 48), (R52, (qG10 z1 QL.length u1), 90), (R6, #[.int .i64 DP, .int .i64 DS, .int .i64 DR, .slice fa FN FN], 81), (R2, (qG3), 50), (R1, (qG0 x a1 x.c.tk.length c1 a2 x.q.length c2 a3 x.t.length c3 a4 x.d.length c4 a5 x.g.length c5 x.s), 48)] [(L54, H54, (fun W => NdNew L54 H54 W y1 y2 y3 y4 y5 x)), (L51, H51, (fun W => NewIn L51 H51 W z1 QL))] from HL57.out.put 0 rfl g58 o58 (qGf ⟨Nat.ne_of_lt qR55_R52, (qGf ⟨Nat.ne_of_lt qR55_R6, (qGf ⟨Nat.ne_of_lt qR55_R2, (qGf ⟨Nat.ne_of_lt qR55_R1, (fun _ h => nomatch h)⟩)⟩)⟩)⟩) (qGf ⟨.inl qR55_H54, (qGf ⟨.inl qR55_H51, (fun _ h => nomatch h)⟩)⟩) rfl); clear g58 o58)
      | (refine wpList_load_at rfl 48 (.tmp 14) rfl (R55) 0 rfl 48 (qG0 x y1 x.c.tk.length d1 z1 QL.length u1 y3 x.t.length d3 y4 x.d.length d4 y5 x.g.length d5 (x.s)) (0, 0) (HL58.out.get (.head _)) [.int .i64 x.c.n.u, .int .i64 x.c.n.m, .int .i64 x.c.n.i, .int .i64 x.c.n.f, .int .i64 x.c.n.c, .int .i64 x.c.n.s, .int .i64 x.c.n.y, .bool x.c.n.a, .int .i64 x.c.ad, .int .i64 x.c.st, .int .i64 x.c.lf, .slice y1 x.c.tk.length d1, .slice z1 QL.length u1, .slice y3 x.t.length d3, .slice y4 x.d.length d4, .slice y5 x.g.length d5, .int .i64 (x.s)] rfl _ Tryz.underlying48 rfl (by kernel_rfl) ?_)
      | (refine wpList_put_at rfl 50 (.tmp 6) (.tmp 97) rfl rfl (R2) 0 rfl _ rfl #[.int .i64 x.c.n.u, .int .i64 x.c.n.m, .int .i64 x.c.n.i, .int .i64 x.c.n.f, .int .i64 x.c.n.c, .int .i64 x.c.n.s, .int .i64 x.c.n.y, .bool x.c.n.a, .int .i64 x.c.ad, .int .i64 x.c.st, .int .i64 x.c.lf, .slice y1 x.c.tk.length d1, .slice z1 QL.length u1, .slice y3 x.t.length d3, .slice y4 x.d.length d4, .slice y5 x.g.length d5, .int .i64 (x.s), .int .i64 0] rfl 50 (qG3) (qG11 x y1 x.c.tk.length d1 z1 QL.length u1 y3 x.t.length d3 y4 x.d.length d4 y5 x.g.length d5 (x.s)) (HL58.out.get qGm3) (by kernel_rfl) (by kernel_rfl) (by kernel_rfl) (by kernel_rfl) ?_; intro w59 g59 o59; have HL59 := Lib.hid (show Lg w w59 [(R55, (qG0 x y1 x.c.tk.length d1 z1 QL.length u1 y3 x.t.length d3 y4 x.d.length d4 y5 x.g.length d5 (x.s)), 48), (R52, (qG10 z1 QL.length u1), 90), (R6, #[.int .i64 DP, .int .i64 DS, .int .i64 DR, .slice fa FN FN], 81), (R2, (qG11 x y1 x.c.tk.length d1 z1 QL.length u1 y3 x.t.length d3 y4 x.d.length d4 y5 x.g.length d5 (x.s)), 50), (R1, (qG0 x a1 x.c.tk.length c1 a2 x.q.length c2 a3 x.t.length c3 a4 x.d.length c4 a5 x.g.length c5 x.s), 48)] [(L54, H54, (fun W => NdNew L54 H54 W y1 y2 y3 y4 y5 x)), (L51, H51, (fun W => NewIn L51 H51 W z1 QL))] from HL58.out.put 3 rfl g59 o59 (qGf ⟨Nat.ne_of_gt qR55_R2, (qGf ⟨Nat.ne_of_gt qR52_R2, (qGf ⟨Nat.ne_of_gt qR6_R2, (qGf ⟨Nat.ne_of_lt qR2_R1, (fun _ h => nomatch h)⟩)⟩)⟩)⟩) (qGf ⟨.inr qL54_R2, (qGf ⟨.inr qL51_R2, (fun _ h => nomatch h)⟩)⟩) rfl); clear g59 o59))
     subst hQL
     have g1 := HL59.out.lo (.head _)
     have g2 := HL59.out.hi (.head _)
     have g3 := HL59.out.lo qGm1
     have g4 := HL59.out.hi qGm1
     have g5 : H51 ≤ L54 := qL54_H51
     have HNQ := HL59.out.at qGm1
     have HNN : Hid (NdNew w.heap.size w59.heap.size w59 y1 z1 y3 y4 y5 (sndN x VV (x.s))) := Lib.hid (by
      obtain ⟨l1, h1, l2, h2, l3, h3, l4, h4, l5, h5, b1_, b2_, b3_, b4_, b5_, d12_, d13_, d14_, d15_, d23_, d24_, d25_, d34_, d35_, d45_, k1, k2, k3, k4, k5⟩ := HL59.out.at (.head _)
      exact ⟨l1, h1, L51, H51, l3, h3, l4, h4, l5, h5, by omega, by omega, by omega, by omega, by omega, by omega, by omega, by omega, by omega, by omega, by omega, by omega, by omega, by omega, by omega, k1, HNQ, k3, k4, k5⟩)
     clear g1 g2 g3 g4 g5 HNQ
     exact bodyPost_ret (results_cell_row (p := 6) (ty := 50) (by kernel_rfl) _ _ (R2) 50 _ (0, 0) _ rfl (HL59.out.get qGm3) Tryz.underlying50 rfl (by kernel_rfl)) rfl ⟨y1, z1, y3, y4, y5, ⟨d1, u1, d3, d4, d5, rfl⟩, HNN.out, HL59.out.below⟩
 ·skip
  have hd8 : decide (8 < DS) = true := decide_eq_true (by omega)
  have hF : sndF x.s T = pieces x.s T (1 + T.size / 7) := if_neg (by omega)
  have hS : sndS x.s T = (x.s + 1) % 8 := if_neg (by omega)
  have hcb : cutB x.s T = true := by
   unfold cutB
   rw [inB_yes hsq.1 hsq.2]
   simp
   omega
  have HCt := fun W => HCut W hcb
  unfold StrsOut at HCt
  rw [pieces_length] at HCt
  rw [hF] at HVV
  rw [hS] at HO2
  clear hF hS HCut hcb
  go_enter Tryz.func8, Tryz.ntmps8
  go_wp2_with (first
   | (refine wpList_box_h rfl 48 (.tmp 0) rfl #[.int .i64 x.c.n.u, .int .i64 x.c.n.m, .int .i64 x.c.n.i, .int .i64 x.c.n.f, .int .i64 x.c.n.c, .int .i64 x.c.n.s, .int .i64 x.c.n.y, .bool x.c.n.a, .int .i64 x.c.ad, .int .i64 x.c.st, .int .i64 x.c.lf, .slice a1 x.c.tk.length c1, .slice a2 x.q.length c2, .slice a3 x.t.length c3, .slice a4 x.d.length c4, .slice a5 x.g.length c5, .int .i64 x.s] rfl ?_; intro w1 R1 e1 g1 b1; have HL1 := Lib.hid (show Lg w w1 [(R1, (qG0 x a1 x.c.tk.length c1 a2 x.q.length c2 a3 x.t.length c3 a4 x.d.length c4 a5 x.g.length c5 x.s), 48)] [] from (Lg.first w).box e1 g1 b1); clear g1 b1 e1)
   | (refine wpList_alloc_h rfl 50 rfl (.agg #[.int .i64 0, .int .i64 0, .int .i64 0, .int .i64 0, .int .i64 0, .int .i64 0, .int .i64 0, .bool false, .int .i64 0, .int .i64 0, .int .i64 0, .slice none 0 0, .slice none 0 0, .slice none 0 0, .slice none 0 0, .slice none 0 0, .int .i64 0, .int .i64 0]) (by kernel_rfl) #[.int .i64 0, .int .i64 0, .int .i64 0, .int .i64 0, .int .i64 0, .int .i64 0, .int .i64 0, .bool false, .int .i64 0, .int .i64 0, .int .i64 0, .slice none 0 0, .slice none 0 0, .slice none 0 0, .slice none 0 0, .slice none 0 0, .int .i64 0, .int .i64 0] rfl ?_; intro w2 R2 e2 g2 b2; have qR2_R1 : R1 < R2 := Nat.lt_of_lt_of_eq (HL1.out.lt (.head _)) e2; have HL2 := Lib.hid (show Lg w w2 [(R2, (qG3), 50), (R1, (qG0 x a1 x.c.tk.length c1 a2 x.q.length c2 a3 x.t.length c3 a4 x.d.length c4 a5 x.g.length c5 x.s), 48)] [] from HL1.out.box e2 g2 b2); clear g2 b2 e2)
   | (refine wpList_load_at (by kernel_rfl) 48 (.tmp 3) rfl (R1) 0 rfl 48 (qG0 x a1 x.c.tk.length c1 a2 x.q.length c2 a3 x.t.length c3 a4 x.d.length c4 a5 x.g.length c5 x.s) (0, 0) (HL2.out.get qGm1) [.int .i64 x.c.n.u, .int .i64 x.c.n.m, .int .i64 x.c.n.i, .int .i64 x.c.n.f, .int .i64 x.c.n.c, .int .i64 x.c.n.s, .int .i64 x.c.n.y, .bool x.c.n.a, .int .i64 x.c.ad, .int .i64 x.c.st, .int .i64 x.c.lf, .slice a1 x.c.tk.length c1, .slice a2 x.q.length c2, .slice a3 x.t.length c3, .slice a4 x.d.length c4, .slice a5 x.g.length c5, .int .i64 x.s] rfl _ Tryz.underlying48 rfl (by kernel_rfl) ?_))
  refine ((HR _ (HI.out.kept HL2.out.below)).out).mono ?_
  rintro e w3 ⟨rfl, h⟩
  have HL3 := Lib.hid (show Lg w w3 [(R2, (qG3), 50), (R1, (qG0 x a1 x.c.tk.length c1 a2 x.q.length c2 a3 x.t.length c3 a4 x.d.length c4 a5 x.g.length c5 x.s), 48)] [] from HL2.out.kept h)
  clear h
  go_wp2_with fail
  refine ((HV _ (HL.out.kept HL3.out.below)).out).mono ?_
  rintro e w4 ⟨rfl, h⟩
  have HL4 := Lib.hid (show Lg w w4 [(R2, (qG3), 50), (R1, (qG0 x a1 x.c.tk.length c1 a2 x.q.length c2 a3 x.t.length c3 a4 x.d.length c4 a5 x.g.length c5 x.s), 48)] [] from HL3.out.kept h)
  clear h
  go_wp2_with (first
   | (refine wpList_load_one (by kernel_rfl) 2 (.tmp 30) rfl (R1) 9 rfl 48 (qG0 x a1 x.c.tk.length c1 a2 x.q.length c2 a3 x.t.length c3 a4 x.d.length c4 a5 x.g.length c5 x.s) (0, 0) (HL4.out.get qGm1) (.int .i64 x.c.st) rfl _ Tryz.underlying2 rfl (by kernel_rfl) ?_))
  refine ((HD _).out).mono ?_
  rintro e w5 ⟨fa, rfl, -, h⟩
  have HL5 := Lib.hid (show Lg w w5 [(R2, (qG3), 50), (R1, (qG0 x a1 x.c.tk.length c1 a2 x.q.length c2 a3 x.t.length c3 a4 x.d.length c4 a5 x.g.length c5 x.s), 48)] [] from HL4.out.kept h)
  clear h
  go_wp2_with (first
   | (refine wpList_alloc_h rfl 81 rfl (.agg #[.int .i64 0, .int .i64 0, .int .i64 0, .slice none 0 0]) (by kernel_rfl) #[.int .i64 0, .int .i64 0, .int .i64 0, .slice none 0 0] rfl ?_; intro w6 R6 e6 g6 b6; have qR6_R2 : R2 < R6 := Nat.lt_of_lt_of_eq (HL5.out.lt (.head _)) e6; have qR6_R1 : R1 < R6 := Nat.lt_of_lt_of_eq (HL5.out.lt qGm1) e6; have HL6 := Lib.hid (show Lg w w6 [(R6, #[.int .i64 0, .int .i64 0, .int .i64 0, .slice none 0 0], 81), (R2, (qG3), 50), (R1, (qG0 x a1 x.c.tk.length c1 a2 x.q.length c2 a3 x.t.length c3 a4 x.d.length c4 a5 x.g.length c5 x.s), 48)] [] from HL5.out.box e6 g6 b6); clear g6 b6 e6)
   | (refine wpList_put_at rfl 81 (.tmp 7) (.tmp 35) rfl rfl (R6) 0 rfl _ rfl #[.int .i64 DP, .int .i64 DS, .int .i64 DR, .slice fa FN FN] rfl 81 #[.int .i64 0, .int .i64 0, .int .i64 0, .slice none 0 0] #[.int .i64 DP, .int .i64 DS, .int .i64 DR, .slice fa FN FN] (HL6.out.get (.head _)) (by kernel_rfl) (by kernel_rfl) (by kernel_rfl) (by kernel_rfl) ?_; intro w7 g7 o7; have HL7 := Lib.hid (show Lg w w7 [(R6, #[.int .i64 DP, .int .i64 DS, .int .i64 DR, .slice fa FN FN], 81), (R2, (qG3), 50), (R1, (qG0 x a1 x.c.tk.length c1 a2 x.q.length c2 a3 x.t.length c3 a4 x.d.length c4 a5 x.g.length c5 x.s), 48)] [] from HL6.out.put 0 rfl g7 o7 (qGf ⟨Nat.ne_of_lt qR6_R2, (qGf ⟨Nat.ne_of_lt qR6_R1, (fun _ h => nomatch h)⟩)⟩) (fun _ h => nomatch h) rfl); clear g7 o7)
   | (refine wpList_load_one rfl 2 (.tmp 36) rfl (R6) 2 rfl 81 #[.int .i64 DP, .int .i64 DS, .int .i64 DR, .slice fa FN FN] (0, 0) (HL7.out.get (.head _)) (.int .i64 DR) rfl _ Tryz.underlying2 rfl (by kernel_rfl) ?_)
   | (refine wpList_load_one rfl 2 (.tmp 40) rfl (R1) 8 rfl 48 (qG0 x a1 x.c.tk.length c1 a2 x.q.length c2 a3 x.t.length c3 a4 x.d.length c4 a5 x.g.length c5 x.s) (0, 0) (HL7.out.get qGm2) (.int .i64 x.c.ad) rfl _ Tryz.underlying2 rfl (by kernel_rfl) ?_))
  refine ((HN _).out).mono ?_
  rintro e w8 ⟨rfl, h⟩
  have HL8 := Lib.hid (show Lg w w8 [(R6, #[.int .i64 DP, .int .i64 DS, .int .i64 DR, .slice fa FN FN], 81), (R2, (qG3), 50), (R1, (qG0 x a1 x.c.tk.length c1 a2 x.q.length c2 a3 x.t.length c3 a4 x.d.length c4 a5 x.g.length c5 x.s), 48)] [] from HL7.out.kept h)
  clear h
  go_wp2_with fail
  refine ((HE _ (HL.out.kept HL8.out.below)).out).mono ?_
  rintro e w9 ⟨rfl, h⟩
  have HL9 := Lib.hid (show Lg w w9 [(R6, #[.int .i64 DP, .int .i64 DS, .int .i64 DR, .slice fa FN FN], 81), (R2, (qG3), 50), (R1, (qG0 x a1 x.c.tk.length c1 a2 x.q.length c2 a3 x.t.length c3 a4 x.d.length c4 a5 x.g.length c5 x.s), 48)] [] from HL8.out.kept h)
  clear h
  go_wp2_with (first
   | (refine wpList_lit1 strL_len rfl 87 (.tmp 46) rfl 9 j0 Tryz.underlying87 HIs.out.1 _ HIs.out.2.1 HIs.out.2.2.1 T (.string T) rfl rfl rfl (by decide) (by decide) ?_; intro w10 G10 e10 hin10 b10; have HT10 := Lib.hid hin10; have HL10 := Lib.hid (show Lg w w10 [(R6, #[.int .i64 DP, .int .i64 DS, .int .i64 DR, .slice fa FN FN], 81), (R2, (qG3), 50), (R1, (qG0 x a1 x.c.tk.length c1 a2 x.q.length c2 a3 x.t.length c3 a4 x.d.length c4 a5 x.g.length c5 x.s), 48)] [] from HL9.out.kept b10); clear e10 hin10 b10)
   | (refine wpList_load_one rfl 2 (.tmp 48) rfl (R1) 16 rfl 48 (qG0 x a1 x.c.tk.length c1 a2 x.q.length c2 a3 x.t.length c3 a4 x.d.length c4 a5 x.g.length c5 x.s) (0, 0) (HL10.out.get qGm2) (.int .i64 x.s) rfl _ Tryz.underlying2 rfl (by kernel_rfl) ?_)
   | (refine wpList_load_one rfl 2 (.tmp 50) rfl (R6) 1 rfl 81 #[.int .i64 DP, .int .i64 DS, .int .i64 DR, .slice fa FN FN] (0, 0) (HL10.out.get (.head _)) (.int .i64 DS) rfl _ Tryz.underlying2 rfl (by kernel_rfl) ?_))
  have HK := Lib.hid (show ∀ W, Below w10.heap.size w10 W → (((W.cell? ⟨R1, 0, none⟩ = some (.int .i64 x.c.n.u) ∧ W.cell? ⟨R1, 1, none⟩ = some (.int .i64 x.c.n.m) ∧ W.cell? ⟨R1, 2, none⟩ = some (.int .i64 x.c.n.i) ∧ W.cell? ⟨R1, 3, none⟩ = some (.int .i64 x.c.n.f) ∧ W.cell? ⟨R1, 4, none⟩ = some (.int .i64 x.c.n.c) ∧ W.cell? ⟨R1, 5, none⟩ = some (.int .i64 x.c.n.s) ∧ W.cell? ⟨R1, 6, none⟩ = some (.int .i64 x.c.n.y) ∧ W.cell? ⟨R1, 7, none⟩ = some (.bool x.c.n.a) ∧ W.cell? ⟨R1, 8, none⟩ = some (.int .i64 x.c.ad) ∧ W.cell? ⟨R1, 9, none⟩ = some (.int .i64 x.c.st) ∧ W.cell? ⟨R1, 10, none⟩ = some (.int .i64 x.c.lf) ∧ W.cell? ⟨R1, 11, none⟩ = some (.slice a1 x.c.tk.length c1) ∧ W.cell? ⟨R1, 12, none⟩ = some (.slice a2 x.q.length c2) ∧ W.cell? ⟨R1, 13, none⟩ = some (.slice a3 x.t.length c3) ∧ W.cell? ⟨R1, 14, none⟩ = some (.slice a4 x.d.length c4) ∧ W.cell? ⟨R1, 15, none⟩ = some (.slice a5 x.g.length c5) ∧ W.cell? ⟨R1, 16, none⟩ = some (.int .i64 x.s)) ∧ W.cell? ⟨G10, 0, none⟩ = some (.string T)) ∧ Below w10.heap.size w10 W) from fun W hW => by
   have hA := (hW.block R1 (HL10.out.lt qGm2)).trans (HL10.out.get qGm2)
   have hG : W.cell? ⟨G10, 0, none⟩ = some (.string T) := by
    rcases HT10.out with h0 | ⟨b', o', e', hlt', hc'⟩
    ·cases h0
    ·injection e' with e'
     injection e' with e1 e2
     subst e1 e2
     have := hc' 0 T rfl 0 (.string T) rfl
     exact (hW.cell (p := ⟨G10, 0, none⟩) hlt').trans (by simpa using this)
   refine ⟨⟨⟨?_, ?_, ?_, ?_, ?_, ?_, ?_, ?_, ?_, ?_, ?_, ?_, ?_, ?_, ?_, ?_, ?_⟩, hG⟩, hW⟩
   all_goals (rw [cell_of_row W R1 _ _ _ (0, 0) hA]; rfl))
  go_region_held3 (fun W => ((W.cell? ⟨R1, 0, none⟩ = some (.int .i64 x.c.n.u) ∧ W.cell? ⟨R1, 1, none⟩ = some (.int .i64 x.c.n.m) ∧ W.cell? ⟨R1, 2, none⟩ = some (.int .i64 x.c.n.i) ∧ W.cell? ⟨R1, 3, none⟩ = some (.int .i64 x.c.n.f) ∧ W.cell? ⟨R1, 4, none⟩ = some (.int .i64 x.c.n.c) ∧ W.cell? ⟨R1, 5, none⟩ = some (.int .i64 x.c.n.s) ∧ W.cell? ⟨R1, 6, none⟩ = some (.int .i64 x.c.n.y) ∧ W.cell? ⟨R1, 7, none⟩ = some (.bool x.c.n.a) ∧ W.cell? ⟨R1, 8, none⟩ = some (.int .i64 x.c.ad) ∧ W.cell? ⟨R1, 9, none⟩ = some (.int .i64 x.c.st) ∧ W.cell? ⟨R1, 10, none⟩ = some (.int .i64 x.c.lf) ∧ W.cell? ⟨R1, 11, none⟩ = some (.slice a1 x.c.tk.length c1) ∧ W.cell? ⟨R1, 12, none⟩ = some (.slice a2 x.q.length c2) ∧ W.cell? ⟨R1, 13, none⟩ = some (.slice a3 x.t.length c3) ∧ W.cell? ⟨R1, 14, none⟩ = some (.slice a4 x.d.length c4) ∧ W.cell? ⟨R1, 15, none⟩ = some (.slice a5 x.g.length c5) ∧ W.cell? ⟨R1, 16, none⟩ = some (.int .i64 x.s)) ∧ W.cell? ⟨G10, 0, none⟩ = some (.string T)) ∧ Below w10.heap.size w10 W)
   (first | with_reducible exact HK.out _ (Below.refl _ _).drew | with_reducible exact HK.out _ bz1)
   (first | (go_at_call 36; refine ((HCt _).out).mono ?_; rintro e wz1 ⟨fz, fc, rfl, hnz, hz1⟩; have bz1 : Below w10.heap.size w10 wz1 := (Below.refl _ _).drew.trans (hz1.mono (Nat.le_refl _)); have HFr := Lib.hid hnz.ins; clear hnz))
  have HL11 := Lib.hid (show Lg w wz1 [(R6, #[.int .i64 DP, .int .i64 DS, .int .i64 DR, .slice fa FN FN], 81), (R2, (qG3), 50), (R1, (qG0 x a1 x.c.tk.length c1 a2 x.q.length c2 a3 x.t.length c3 a4 x.d.length c4 a5 x.g.length c5 x.s), 48)] [] from HL10.out.kept bz1)
  go_wp2_with (first
   | (refine wpList_load_one rfl 2 (.tmp 59) rfl (R1) 16 rfl 48 (qG0 x a1 x.c.tk.length c1 a2 x.q.length c2 a3 x.t.length c3 a4 x.d.length c4 a5 x.g.length c5 x.s) (0, 0) (HL11.out.get qGm2) (.int .i64 x.s) rfl _ Tryz.underlying2 rfl (by kernel_rfl) ?_)
   | (refine wpList_lit0 canL 2 rfl 41 rfl 66 i0 Tryz.underlying41 HIc.out.1 ?_; intro w12 G12 e12 hok12 b12; have HE12 := Lib.hid e12; have HO12 := Lib.hid hok12; have HB12 := Lib.hid b12; clear e12 hok12 b12))
  generalize hn : 1 + T.size / 7 = n at *
  obtain ⟨F, hF⟩ : ∃ F, pieces x.s T n = F := ⟨_, rfl⟩
  have hFn : F.length = n := by rw [← hF]; exact pieces_length _ _ _
  have HFU := Lib.hid (show RsIn strL 1 wz1 fz F from by rw [← hF]; exact HFr.out)
  rw [hF] at HVV
  clear HFr hF hn HCt HK
  have HFn := Lib.hid hFn
  have hn32 : n ≤ 32 := by
   have e1 := congrArg List.length HVV.out
   rw [sndC_len, hFn] at e1
   omega
  have HVn := Lib.hid (show VV.length = n from by rw [HVV.out, sndC_len]; exact hFn)
  clear hFn
  go_loopw [11, 12] (fun v i wr => ∃ (k : Nat) (V : Value), i = .int .i64 (k : Int) ∧ V = v ∧ k ≤ n ∧ OwnIn canL 2 66 wz1.heap.size wr.heap.size wr V (sndC DR p x.c.ad (F.take k)) ∧ Below wz1.heap.size wz1 wr) (fun v i _ => n - (intOf i).toNat)
  case atStart => exact ⟨0, _, rfl, rfl, by omega, by rw [HE12.out]; exact HO12.out, HB12.out⟩
  case round =>
   obtain ⟨k, V, rfl, rfl, hk, hown, hb⟩ := hrel
   have HOw := Lib.hid hown
   clear hown
   by_cases hkn : k < n
   ·have hkl : k < F.length := by have := HFn.out; omega
    have hi1 : (0 : Int) ≤ (k : Int) := by omega
    have hi2 : (k : Int) < (n : Int) := by omega
    obtain ⟨bb, oo, rfl, hlt, hc⟩ := HFU.out.at (by omega)
    obtain ⟨y, hy⟩ : ∃ y, F[k]? = some y := ⟨_, List.getElem?_eq_getElem hkl⟩
    have h0 := hc k y hy 0 _ rfl
    rw [Nat.mul_one, Nat.add_zero] at h0
    have HCy := Lib.hid ((hb.cell (p := ⟨bb, oo + k, none⟩) hlt).trans h0)
    have HX := Lib.hid (show sndC DR p x.c.ad (F.take (k + 1)) = sndC DR p x.c.ad (F.take k) ++ [(m, y)] from by rw [← HM.out]; exact sndC_take hy)
    have hlen : (sndC DR p x.c.ad (F.take k)).length ≤ 32 := by rw [sndC_len, List.length_take]; omega
    have HLen := Lib.hid hlen
    clear hc h0 hlen hy
    generalize sndC DR p x.c.ad (F.take k) = C at *
    obtain ⟨LO, eLO⟩ : ∃ z, wz1.heap.size = z := ⟨_, rfl⟩
    obtain ⟨HI1, eHI⟩ : ∃ z, wr.heap.size = z := ⟨_, rfl⟩
    have HL1 := Lib.hid (show Lg wz1 wr [] [(LO, HI1, fun W => OwnIn canL 2 66 LO HI1 W V C)] from (by
     subst eLO eHI
     exact (⟨hb, fun r hr => (by cases hr), fun n hn => (by cases hn)⟩ : Lg wz1 wr [] []).addNew HOw.out.solid (Nat.le_refl _) hb.size (Nat.le_refl _)))
    have HLO := Lib.hid eLO
    clear eLO eHI HOw
    go_wp2_with (first
     | (refine wpList_load_one1 rfl 9 (.tmp 74) rfl bb (oo + k) rfl (.string y) HCy.out _ Tryz.underlying9 rfl ?_)
     | (refine wpList_lit1 canL_len rfl 41 (.tmp 76) rfl 66 i0 Tryz.underlying41 HIc.out.1 _ HIc.out.2.1 HIc.out.2.2.1 (m, y) (.agg #[.int .i64 m, .string y]) rfl rfl rfl (by decide) (by decide) ?_; intro w20 R20 e20 hin20 b20; have HR20 := Lib.hid hin20; have HL20 := Lib.hid (HL1.out.kept b20); clear e20 hin20 b20)
     | (at_builtin; refine wpList_append_rs canL_len canL_one rfl (.tmp 70) (.tmp 77) 41 rfl 66 i0 _ 24 Tryz.underlying41 HIc.out.1 HIc.out.2.1 HIc.out.2.2.1 HIc.out.2.2.2 rfl (by decide) LO HI1 V C rfl (HL20.out.at (.head _)) _ 1 [(m, y)] rfl HR20.out (by have := HLen.out; unfold maxLen; show _ + 1 ≤ _; omega) (by have := HLen.out; show (_ + 1) * 24 ≤ _; omega) (Nat.le_trans (HL20.out.hi (.head _)).1 (HL20.out.hi (.head _)).2) ?_; intro v21 w21 hown21 ho21; have HO21 := Lib.hid hown21; have HU21 := Lib.hid ho21; clear hown21 ho21))
    go_roundw
    case rel =>
     refine ⟨k + 1, _, by go_num, rfl, by omega, ?_, HU21.out.below HL20.out.below (HL20.out.lo (.head _)) HL20.out.below.size⟩
     have h := HO21.out
     rw [HX.out]
     have e := HLO.out
     subst e
     exact h
    case measure => simp [intOf]; omega
   ·have hge : n ≤ k := by omega
    have HV2 := Lib.hid (show sndC DR p x.c.ad (F.take k) = VV from by rw [List.take_of_length_le (by have := HFn.out; omega), ← HVV.out])
    obtain ⟨y0, d0, rfl, -, hn0⟩ := HOw.out.new canL_len
    rw [HV2.out] at hn0 ⊢
    obtain ⟨L0, eL0⟩ : ∃ z, wz1.heap.size = z := ⟨_, rfl⟩
    obtain ⟨H0, eH0⟩ : ∃ z, wr.heap.size = z := ⟨_, rfl⟩
    rw [eL0, eH0] at hn0
    clear HOw HV2 HVV HFU HFn HM
    have HQ0 := Lib.hid hn0.cans.cans
    have HL50 := Lib.hid (show Lg w wr [(R6, #[.int .i64 DP, .int .i64 DS, .int .i64 DR, .slice fa FN FN], 81), (R2, (qG3), 50), (R1, (qG0 x a1 x.c.tk.length c1 a2 x.q.length c2 a3 x.t.length c3 a4 x.d.length c4 a5 x.g.length c5 x.s), 48)] [] from HL11.out.kept hb)
    clear hn0 hb
    go_wp2_with (first
     | (refine wpList_load_at (by kernel_rfl) 43 (.tmp 79) rfl (R1) 12 rfl 48 (qG0 x a1 x.c.tk.length c1 a2 x.q.length c2 a3 x.t.length c3 a4 x.d.length c4 a5 x.g.length c5 x.s) (0, 0) (HL50.out.get qGm2) [.slice a2 x.q.length c2] rfl _ Tryz.underlying43 rfl (by kernel_rfl) ?_))
    by_cases h16 : 16 < x.q.length + VV.length
    ·skip
     have ho : O = (ndZ, 9) := by rw [HO2.out, if_pos h16]
     rw [if_pos h16] at HP
     clear HO2
     subst ho
     go_wp2_with fail
     refine ((HP _ _ _ (HQ2.out.kept HL50.out.below) HQ0.out).out).mono ?_
     rintro e w51 ⟨z1, u1, rfl, -, -, h⟩
     have HL51 := Lib.hid (show Lg w w51 [(R6, #[.int .i64 DP, .int .i64 DS, .int .i64 DR, .slice fa FN FN], 81), (R2, (qG3), 50), (R1, (qG0 x a1 x.c.tk.length c1 a2 x.q.length c2 a3 x.t.length c3 a4 x.d.length c4 a5 x.g.length c5 x.s), 48)] [] from HL50.out.kept h)
     clear h
     go_wp2_with (first
      | (refine wpList_alloc_h rfl 90 rfl (.agg #[.slice none 0 0, .int .i64 0, .string ByteArray.empty, .int .i64 0]) (by kernel_rfl) #[.slice none 0 0, .int .i64 0, .string ByteArray.empty, .int .i64 0] rfl ?_; intro w52 R52 e52 g52 b52; have qR52_R6 : R6 < R52 := Nat.lt_of_lt_of_eq (HL51.out.lt (.head _)) e52; have qR52_R2 : R2 < R52 := Nat.lt_of_lt_of_eq (HL51.out.lt qGm1) e52; have qR52_R1 : R1 < R52 := Nat.lt_of_lt_of_eq (HL51.out.lt qGm2) e52; have HL52 := Lib.hid (show Lg w w52 [(R52, (qG7), 90), (R6, #[.int .i64 DP, .int .i64 DS, .int .i64 DR, .slice fa FN FN], 81), (R2, (qG3), 50), (R1, (qG0 x a1 x.c.tk.length c1 a2 x.q.length c2 a3 x.t.length c3 a4 x.d.length c4 a5 x.g.length c5 x.s), 48)] [] from HL51.out.box e52 g52 b52); clear g52 b52 e52)
      | (refine wpList_put_at rfl 90 (.tmp 13) (.tmp 82) rfl rfl (R52) 0 rfl (.agg #[.slice z1 ([] : List (Int × ByteArray)).length u1, .int .i64 0, .string ⟨#[]⟩, .int .i64 9]) rfl #[.slice z1 ([] : List (Int × ByteArray)).length u1, .int .i64 0, .string ⟨#[]⟩, .int .i64 9] rfl 90 (qG7) (qG8 z1 ([] : List (Int × ByteArray)).length u1) (HL52.out.get (.head _)) (by kernel_rfl) (by kernel_rfl) (by kernel_rfl) (by kernel_rfl) ?_; intro w53 g53 o53; have HL53 := Lib.hid (show Lg w w53 [(R52, (qG8 z1 ([] : List (Int × ByteArray)).length u1), 90), (R6, #[.int .i64 DP, .int .i64 DS, .int .i64 DR, .slice fa FN FN], 81), (R2, (qG3), 50), (R1, (qG0 x a1 x.c.tk.length c1 a2 x.q.length c2 a3 x.t.length c3 a4 x.d.length c4 a5 x.g.length c5 x.s), 48)] [] from HL52.out.put 0 rfl g53 o53 (qGf ⟨Nat.ne_of_lt qR52_R6, (qGf ⟨Nat.ne_of_lt qR52_R2, (qGf ⟨Nat.ne_of_lt qR52_R1, (fun _ h => nomatch h)⟩)⟩)⟩) (fun _ h => nomatch h) rfl); clear g53 o53)
      | (refine wpList_load_one rfl 2 (.tmp 83) rfl (R52) 3 rfl 90 (qG8 z1 ([] : List (Int × ByteArray)).length u1) (0, 0) (HL53.out.get (.head _)) (.int .i64 9) rfl _ Tryz.underlying2 rfl (by kernel_rfl) ?_)
      | (refine wpList_load_one rfl 2 (.tmp 86) rfl (R52) 3 rfl 90 (qG8 z1 ([] : List (Int × ByteArray)).length u1) (0, 0) (HL53.out.get (.head _)) (.int .i64 9) rfl _ Tryz.underlying2 rfl (by kernel_rfl) ?_))
     refine (l10Ill_any 9 _).mono ?_
     rintro e w54 ⟨rfl, h⟩
     have HL54 := Lib.hid (show Lg w w54 [(R52, (qG8 z1 ([] : List (Int × ByteArray)).length u1), 90), (R6, #[.int .i64 DP, .int .i64 DS, .int .i64 DR, .slice fa FN FN], 81), (R2, (qG3), 50), (R1, (qG0 x a1 x.c.tk.length c1 a2 x.q.length c2 a3 x.t.length c3 a4 x.d.length c4 a5 x.g.length c5 x.s), 48)] [] from HL53.out.kept h)
     clear h
     go_wp2_with (first
      | (refine wpList_put_at rfl 50 (.tmp 6) (.tmp 88) rfl rfl (R2) 0 rfl _ rfl #[.int .i64 0, .int .i64 0, .int .i64 0, .int .i64 0, .int .i64 0, .int .i64 0, .int .i64 0, .bool false, .int .i64 0, .int .i64 0, .int .i64 0, .slice none 0 0, .slice none 0 0, .slice none 0 0, .slice none 0 0, .slice none 0 0, .int .i64 0, .int .i64 9] rfl 50 (qG3) (qG9) (HL54.out.get qGm2) (by kernel_rfl) (by kernel_rfl) (by kernel_rfl) (by kernel_rfl) ?_; intro w55 g55 o55; have HL55 := Lib.hid (show Lg w w55 [(R52, (qG8 z1 ([] : List (Int × ByteArray)).length u1), 90), (R6, #[.int .i64 DP, .int .i64 DS, .int .i64 DR, .slice fa FN FN], 81), (R2, (qG9), 50), (R1, (qG0 x a1 x.c.tk.length c1 a2 x.q.length c2 a3 x.t.length c3 a4 x.d.length c4 a5 x.g.length c5 x.s), 48)] [] from HL54.out.put 2 rfl g55 o55 (qGf ⟨Nat.ne_of_gt qR52_R2, (qGf ⟨Nat.ne_of_gt qR6_R2, (qGf ⟨Nat.ne_of_lt qR2_R1, (fun _ h => nomatch h)⟩)⟩)⟩) (fun _ h => nomatch h) rfl); clear g55 o55))
     exact bodyPost_ret (results_cell_row (p := 6) (ty := 50) (by kernel_rfl) _ _ (R2) 50 _ (0, 0) _ rfl (HL55.out.get qGm2) Tryz.underlying50 rfl (by kernel_rfl)) rfl ⟨none, none, none, none, none, ⟨0, 0, 0, 0, 0, rfl⟩, ndZ_new HL55.out.below.size, HL55.out.below⟩
    ·skip
     have ho : O = (sndN x VV ((x.s + 1) % 8), 0) := by rw [HO2.out, if_neg h16]
     rw [if_neg h16] at HP
     clear HO2
     subst ho
     obtain ⟨QL, hQL⟩ : ∃ L, x.q ++ VV = L := ⟨_, rfl⟩
     rw [hQL] at HP
     go_wp2_with fail
     refine ((HP _ _ _ (HQ2.out.kept HL50.out.below) HQ0.out).out).mono ?_
     rintro e w51 ⟨z1, u1, rfl, -, hn, h⟩
     obtain ⟨L51, e51⟩ : ∃ x, wr.heap.size = x := ⟨_, rfl⟩
     obtain ⟨H51, f51⟩ : ∃ x, w51.heap.size = x := ⟨_, rfl⟩
     have qL51_R6 : R6 < L51 := Nat.lt_of_lt_of_eq (HL50.out.lt (.head _)) e51
     have qL51_R2 : R2 < L51 := Nat.lt_of_lt_of_eq (HL50.out.lt qGm1) e51
     have qL51_R1 : R1 < L51 := Nat.lt_of_lt_of_eq (HL50.out.lt qGm2) e51
     have qH51_L51 : L51 ≤ H51 := (by rw [← e51, ← f51]; exact h.size)
     have HL51 := Lib.hid (show Lg w w51 [(R6, #[.int .i64 DP, .int .i64 DS, .int .i64 DR, .slice fa FN FN], 81), (R2, (qG3), 50), (R1, (qG0 x a1 x.c.tk.length c1 a2 x.q.length c2 a3 x.t.length c3 a4 x.d.length c4 a5 x.g.length c5 x.s), 48)] [(L51, H51, (fun W => NewIn L51 H51 W z1 QL))] from HL50.out.made e51 f51 h (by rw [← e51, ← f51]; exact hn.solid))
     clear h hn e51 f51
     go_wp2_with (first
      | (refine wpList_alloc_h rfl 90 rfl (.agg #[.slice none 0 0, .int .i64 0, .string ByteArray.empty, .int .i64 0]) (by kernel_rfl) #[.slice none 0 0, .int .i64 0, .string ByteArray.empty, .int .i64 0] rfl ?_; intro w52 R52 e52 g52 b52; have qR52_R6 : R6 < R52 := Nat.lt_of_lt_of_eq (HL51.out.lt (.head _)) e52; have qR52_R2 : R2 < R52 := Nat.lt_of_lt_of_eq (HL51.out.lt qGm1) e52; have qR52_R1 : R1 < R52 := Nat.lt_of_lt_of_eq (HL51.out.lt qGm2) e52; have qR52_H51 : H51 ≤ R52 := Nat.le_trans (HL51.out.hi (.head _)).2 (Nat.le_of_eq e52); have HL52 := Lib.hid (show Lg w w52 [(R52, (qG7), 90), (R6, #[.int .i64 DP, .int .i64 DS, .int .i64 DR, .slice fa FN FN], 81), (R2, (qG3), 50), (R1, (qG0 x a1 x.c.tk.length c1 a2 x.q.length c2 a3 x.t.length c3 a4 x.d.length c4 a5 x.g.length c5 x.s), 48)] [(L51, H51, (fun W => NewIn L51 H51 W z1 QL))] from HL51.out.box e52 g52 b52); clear g52 b52 e52)
      | (refine wpList_put_at rfl 90 (.tmp 13) (.tmp 82) rfl rfl (R52) 0 rfl (.agg #[.slice z1 QL.length u1, .int .i64 0, .string ⟨#[]⟩, .int .i64 0]) rfl #[.slice z1 QL.length u1, .int .i64 0, .string ⟨#[]⟩, .int .i64 0] rfl 90 (qG7) (qG10 z1 QL.length u1) (HL52.out.get (.head _)) (by kernel_rfl) (by kernel_rfl) (by kernel_rfl) (by kernel_rfl) ?_; intro w53 g53 o53; have HL53 := Lib.hid (show Lg w w53 [(R52, (qG10 z1 QL.length u1), 90), (R6, #[.int .i64 DP, .int .i64 DS, .int .i64 DR, .slice fa FN FN], 81), (R2, (qG3), 50), (R1, (qG0 x a1 x.c.tk.length c1 a2 x.q.length c2 a3 x.t.length c3 a4 x.d.length c4 a5 x.g.length c5 x.s), 48)] [(L51, H51, (fun W => NewIn L51 H51 W z1 QL))] from HL52.out.put 0 rfl g53 o53 (qGf ⟨Nat.ne_of_lt qR52_R6, (qGf ⟨Nat.ne_of_lt qR52_R2, (qGf ⟨Nat.ne_of_lt qR52_R1, (fun _ h => nomatch h)⟩)⟩)⟩) (qGf ⟨.inl qR52_H51, (fun _ h => nomatch h)⟩) rfl); clear g53 o53)
      | (refine wpList_load_one rfl 2 (.tmp 83) rfl (R52) 3 rfl 90 (qG10 z1 QL.length u1) (0, 0) (HL53.out.get (.head _)) (.int .i64 0) rfl _ Tryz.underlying2 rfl (by kernel_rfl) ?_)
      | (refine wpList_load_at rfl 48 (.tmp 3) rfl (R1) 0 rfl 48 (qG0 x a1 x.c.tk.length c1 a2 x.q.length c2 a3 x.t.length c3 a4 x.d.length c4 a5 x.g.length c5 x.s) (0, 0) (HL53.out.get qGm3) [.int .i64 x.c.n.u, .int .i64 x.c.n.m, .int .i64 x.c.n.i, .int .i64 x.c.n.f, .int .i64 x.c.n.c, .int .i64 x.c.n.s, .int .i64 x.c.n.y, .bool x.c.n.a, .int .i64 x.c.ad, .int .i64 x.c.st, .int .i64 x.c.lf, .slice a1 x.c.tk.length c1, .slice a2 x.q.length c2, .slice a3 x.t.length c3, .slice a4 x.d.length c4, .slice a5 x.g.length c5, .int .i64 x.s] rfl _ Tryz.underlying48 rfl (by kernel_rfl) ?_))
     refine ((HC _ (HI.out.kept HL53.out.below)).out).mono ?_
     rintro e w54 ⟨y1, y2, y3, y4, y5, d1, d2, d3, d4, d5, rfl, hn, h⟩
     obtain ⟨L54, e54⟩ : ∃ x, w53.heap.size = x := ⟨_, rfl⟩
     obtain ⟨H54, f54⟩ : ∃ x, w54.heap.size = x := ⟨_, rfl⟩
     have qL54_R52 : R52 < L54 := Nat.lt_of_lt_of_eq (HL53.out.lt (.head _)) e54
     have qL54_R6 : R6 < L54 := Nat.lt_of_lt_of_eq (HL53.out.lt qGm1) e54
     have qL54_R2 : R2 < L54 := Nat.lt_of_lt_of_eq (HL53.out.lt qGm2) e54
     have qL54_R1 : R1 < L54 := Nat.lt_of_lt_of_eq (HL53.out.lt qGm3) e54
     have qL54_H51 : H51 ≤ L54 := Nat.le_trans (HL53.out.hi (.head _)).2 (Nat.le_of_eq e54)
     have qH54_L54 : L54 ≤ H54 := (by rw [← e54, ← f54]; exact h.size)
     have HL54 := Lib.hid (show Lg w w54 [(R52, (qG10 z1 QL.length u1), 90), (R6, #[.int .i64 DP, .int .i64 DS, .int .i64 DR, .slice fa FN FN], 81), (R2, (qG3), 50), (R1, (qG0 x a1 x.c.tk.length c1 a2 x.q.length c2 a3 x.t.length c3 a4 x.d.length c4 a5 x.g.length c5 x.s), 48)] [(L54, H54, (fun W => NdNew L54 H54 W y1 y2 y3 y4 y5 x)), (L51, H51, (fun W => NewIn L51 H51 W z1 QL))] from HL53.out.made e54 f54 h (by rw [← e54, ← f54]; exact hn.solid))
     clear h hn e54 f54
     go_wp2_with (first
      | (refine wpList_alloc_h rfl 48 rfl (.agg #[.int .i64 0, .int .i64 0, .int .i64 0, .int .i64 0, .int .i64 0, .int .i64 0, .int .i64 0, .bool false, .int .i64 0, .int .i64 0, .int .i64 0, .slice none 0 0, .slice none 0 0, .slice none 0 0, .slice none 0 0, .slice none 0 0, .int .i64 0]) (by kernel_rfl) #[.int .i64 0, .int .i64 0, .int .i64 0, .int .i64 0, .int .i64 0, .int .i64 0, .int .i64 0, .bool false, .int .i64 0, .int .i64 0, .int .i64 0, .slice none 0 0, .slice none 0 0, .slice none 0 0, .slice none 0 0, .slice none 0 0, .int .i64 0] rfl ?_; intro w55 R55 e55 g55 b55; have qR55_R52 : R52 < R55 := Nat.lt_of_lt_of_eq (HL54.out.lt (.head _)) e55; have qR55_R6 : R6 < R55 := Nat.lt_of_lt_of_eq (HL54.out.lt qGm1) e55; have qR55_R2 : R2 < R55 := Nat.lt_of_lt_of_eq (HL54.out.lt qGm2) e55; have qR55_R1 : R1 < R55 := Nat.lt_of_lt_of_eq (HL54.out.lt qGm3) e55; have qR55_H54 : H54 ≤ R55 := Nat.le_trans (HL54.out.hi (.head _)).2 (Nat.le_of_eq e55); have qR55_H51 : H51 ≤ R55 := Nat.le_trans (HL54.out.hi qGm1).2 (Nat.le_of_eq e55); have HL55 := Lib.hid (show Lg w w55 [(R55, (qG1), 48), (R52, (qG10 z1 QL.length u1), 90), (R6, #[.int .i64 DP, .int .i64 DS, .int .i64 DR, .slice fa FN FN], 81), (R2, (qG3), 50), (R1, (qG0 x a1 x.c.tk.length c1 a2 x.q.length c2 a3 x.t.length c3 a4 x.d.length c4 a5 x.g.length c5 x.s), 48)] [(L54, H54, (fun W => NdNew L54 H54 W y1 y2 y3 y4 y5 x)), (L51, H51, (fun W => NewIn L51 H51 W z1 QL))] from HL54.out.box e55 g55 b55); clear g55 b55 e55)
      | (refine wpList_put_at rfl 48 (.tmp 14) (.tmp 90) rfl rfl (R55) 0 rfl _ rfl #[.int .i64 x.c.n.u, .int .i64 x.c.n.m, .int .i64 x.c.n.i, .int .i64 x.c.n.f, .int .i64 x.c.n.c, .int .i64 x.c.n.s, .int .i64 x.c.n.y, .bool x.c.n.a, .int .i64 x.c.ad, .int .i64 x.c.st, .int .i64 x.c.lf, .slice y1 x.c.tk.length d1, .slice y2 x.q.length d2, .slice y3 x.t.length d3, .slice y4 x.d.length d4, .slice y5 x.g.length d5, .int .i64 x.s] rfl 48 (qG1) (qG0 x y1 x.c.tk.length d1 y2 x.q.length d2 y3 x.t.length d3 y4 x.d.length d4 y5 x.g.length d5 x.s) (HL55.out.get (.head _)) (by kernel_rfl) (by kernel_rfl) (by kernel_rfl) (by kernel_rfl) ?_; intro w56 g56 o56; have HL56 := Lib.hid (show Lg w w56 [(R55, (qG0 x y1 x.c.tk.length d1 y2 x.q.length d2 y3 x.t.length d3 y4 x.d.length d4 y5 x.g.length d5 x.s), 48), (R52, (qG10 z1 QL.length u1), 90), (R6, #[.int .i64 DP, .int .i64 DS, .int .i64 DR, .slice fa FN FN], 81), (R2, (qG3), 50), (R1, (qG0 x a1 x.c.tk.length c1 a2 x.q.length c2 a3 x.t.length c3 a4 x.d.length c4 a5 x.g.length c5 x.s), 48)] [(L54, H54, (fun W => NdNew L54 H54 W y1 y2 y3 y4 y5 x)), (L51, H51, (fun W => NewIn L51 H51 W z1 QL))] from HL55.out.put 0 rfl g56 o56 (qGf ⟨Nat.ne_of_lt qR55_R52, (qGf ⟨Nat.ne_of_lt qR55_R6, (qGf ⟨Nat.ne_of_lt qR55_R2, (qGf ⟨Nat.ne_of_lt qR55_R1, (fun _ h => nomatch h)⟩)⟩)⟩)⟩) (qGf ⟨.inl qR55_H54, (qGf ⟨.inl qR55_H51, (fun _ h => nomatch h)⟩)⟩) rfl); clear g56 o56)
      | (refine wpList_load_at rfl 43 (.tmp 91) rfl (R52) 0 rfl 90 (qG10 z1 QL.length u1) (0, 0) (HL56.out.get qGm1) [.slice z1 QL.length u1] rfl _ Tryz.underlying43 rfl (by kernel_rfl) ?_)
      | (refine wpList_put_at rfl 43 (.tmp 93) (.tmp 92) rfl rfl (R55) 12 rfl (.agg #[.slice z1 QL.length u1]) rfl #[.slice z1 QL.length u1] rfl 48 (qG0 x y1 x.c.tk.length d1 y2 x.q.length d2 y3 x.t.length d3 y4 x.d.length d4 y5 x.g.length d5 x.s) (qG0 x y1 x.c.tk.length d1 z1 QL.length u1 y3 x.t.length d3 y4 x.d.length d4 y5 x.g.length d5 x.s) (HL56.out.get (.head _)) (by kernel_rfl) (by kernel_rfl) (by kernel_rfl) (by kernel_rfl) ?_; intro w57 g57 o57; have HL57 := Lib.hid (show Lg w w57 [(R55, (qG0 x y1 x.c.tk.length d1 z1 QL.length u1 y3 x.t.length d3 y4 x.d.length d4 y5 x.g.length d5 x.s), 48), (R52, (qG10 z1 QL.length u1), 90), (R6, #[.int .i64 DP, .int .i64 DS, .int .i64 DR, .slice fa FN FN], 81), (R2, (qG3), 50), (R1, (qG0 x a1 x.c.tk.length c1 a2 x.q.length c2 a3 x.t.length c3 a4 x.d.length c4 a5 x.g.length c5 x.s), 48)] [(L54, H54, (fun W => NdNew L54 H54 W y1 y2 y3 y4 y5 x)), (L51, H51, (fun W => NewIn L51 H51 W z1 QL))] from HL56.out.put 0 rfl g57 o57 (qGf ⟨Nat.ne_of_lt qR55_R52, (qGf ⟨Nat.ne_of_lt qR55_R6, (qGf ⟨Nat.ne_of_lt qR55_R2, (qGf ⟨Nat.ne_of_lt qR55_R1, (fun _ h => nomatch h)⟩)⟩)⟩)⟩) (qGf ⟨.inl qR55_H54, (qGf ⟨.inl qR55_H51, (fun _ h => nomatch h)⟩)⟩) rfl); clear g57 o57)
      | (refine wpList_put_at rfl 2 (.tmp 95) (.tmp 94) rfl rfl (R55) 16 rfl (.int .i64 ((x.s + 1) % 8)) rfl #[.int .i64 ((x.s + 1) % 8)] rfl 48 (qG0 x y1 x.c.tk.length d1 z1 QL.length u1 y3 x.t.length d3 y4 x.d.length d4 y5 x.g.length d5 x.s) (qG0 x y1 x.c.tk.length d1 z1 QL.length u1 y3 x.t.length d3 y4 x.d.length d4 y5 x.g.length d5 ((x.s + 1) % 8)) (HL57.out.get (.head _)) (by kernel_rfl) (by kernel_rfl) (by kernel_rfl) (by kernel_rfl) ?_; intro w58 g58 o58; have HL58 := Lib.hid (show Lg w w58 [(R55, (qG0 x y1 x.c.tk.length d1 z1 QL.length u1 y3 x.t.length d3 y4 x.d.length d4 y5 x.g.length d5 ((x.s + 1) % 8)), 48), (R52, (qG10 z1 QL.length u1), 90), (R6, #[.int .i64 DP, .int .i64 DS, .int .i64 DR, .slice fa FN FN], 81), (R2, (qG3), 50), (R1, (qG0 x a1 x.c.tk.length c1 a2 x.q.length c2 a3 x.t.length c3 a4 x.d.length c4 a5 x.g.length c5 x.s), 48)] [(L54, H54, (fun W => NdNew L54 H54 W y1 y2 y3 y4 y5 x)), (L51, H51, (fun W => NewIn L51 H51 W z1 QL))] from HL57.out.put 0 rfl g58 o58 (qGf ⟨Nat.ne_of_lt qR55_R52, (qGf ⟨Nat.ne_of_lt qR55_R6, (qGf ⟨Nat.ne_of_lt qR55_R2, (qGf ⟨Nat.ne_of_lt qR55_R1, (fun _ h => nomatch h)⟩)⟩)⟩)⟩) (qGf ⟨.inl qR55_H54, (qGf ⟨.inl qR55_H51, (fun _ h => nomatch h)⟩)⟩) rfl); clear g58 o58)
      | (refine wpList_load_at rfl 48 (.tmp 14) rfl (R55) 0 rfl 48 (qG0 x y1 x.c.tk.length d1 z1 QL.length u1 y3 x.t.length d3 y4 x.d.length d4 y5 x.g.length d5 ((x.s + 1) % 8)) (0, 0) (HL58.out.get (.head _)) [.int .i64 x.c.n.u, .int .i64 x.c.n.m, .int .i64 x.c.n.i, .int .i64 x.c.n.f, .int .i64 x.c.n.c, .int .i64 x.c.n.s, .int .i64 x.c.n.y, .bool x.c.n.a, .int .i64 x.c.ad, .int .i64 x.c.st, .int .i64 x.c.lf, .slice y1 x.c.tk.length d1, .slice z1 QL.length u1, .slice y3 x.t.length d3, .slice y4 x.d.length d4, .slice y5 x.g.length d5, .int .i64 ((x.s + 1) % 8)] rfl _ Tryz.underlying48 rfl (by kernel_rfl) ?_)
      | (refine wpList_put_at rfl 50 (.tmp 6) (.tmp 97) rfl rfl (R2) 0 rfl _ rfl #[.int .i64 x.c.n.u, .int .i64 x.c.n.m, .int .i64 x.c.n.i, .int .i64 x.c.n.f, .int .i64 x.c.n.c, .int .i64 x.c.n.s, .int .i64 x.c.n.y, .bool x.c.n.a, .int .i64 x.c.ad, .int .i64 x.c.st, .int .i64 x.c.lf, .slice y1 x.c.tk.length d1, .slice z1 QL.length u1, .slice y3 x.t.length d3, .slice y4 x.d.length d4, .slice y5 x.g.length d5, .int .i64 ((x.s + 1) % 8), .int .i64 0] rfl 50 (qG3) (qG11 x y1 x.c.tk.length d1 z1 QL.length u1 y3 x.t.length d3 y4 x.d.length d4 y5 x.g.length d5 ((x.s + 1) % 8)) (HL58.out.get qGm3) (by kernel_rfl) (by kernel_rfl) (by kernel_rfl) (by kernel_rfl) ?_; intro w59 g59 o59; have HL59 := Lib.hid (show Lg w w59 [(R55, (qG0 x y1 x.c.tk.length d1 z1 QL.length u1 y3 x.t.length d3 y4 x.d.length d4 y5 x.g.length d5 ((x.s + 1) % 8)), 48), (R52, (qG10 z1 QL.length u1), 90), (R6, #[.int .i64 DP, .int .i64 DS, .int .i64 DR, .slice fa FN FN], 81), (R2, (qG11 x y1 x.c.tk.length d1 z1 QL.length u1 y3 x.t.length d3 y4 x.d.length d4 y5 x.g.length d5 ((x.s + 1) % 8)), 50), (R1, (qG0 x a1 x.c.tk.length c1 a2 x.q.length c2 a3 x.t.length c3 a4 x.d.length c4 a5 x.g.length c5 x.s), 48)] [(L54, H54, (fun W => NdNew L54 H54 W y1 y2 y3 y4 y5 x)), (L51, H51, (fun W => NewIn L51 H51 W z1 QL))] from HL58.out.put 3 rfl g59 o59 (qGf ⟨Nat.ne_of_gt qR55_R2, (qGf ⟨Nat.ne_of_gt qR52_R2, (qGf ⟨Nat.ne_of_gt qR6_R2, (qGf ⟨Nat.ne_of_lt qR2_R1, (fun _ h => nomatch h)⟩)⟩)⟩)⟩) (qGf ⟨.inr qL54_R2, (qGf ⟨.inr qL51_R2, (fun _ h => nomatch h)⟩)⟩) rfl); clear g59 o59))
     subst hQL
     have g1 := HL59.out.lo (.head _)
     have g2 := HL59.out.hi (.head _)
     have g3 := HL59.out.lo qGm1
     have g4 := HL59.out.hi qGm1
     have g5 : H51 ≤ L54 := qL54_H51
     have HNQ := HL59.out.at qGm1
     have HNN : Hid (NdNew w.heap.size w59.heap.size w59 y1 z1 y3 y4 y5 (sndN x VV ((x.s + 1) % 8))) := Lib.hid (by
      obtain ⟨l1, h1, l2, h2, l3, h3, l4, h4, l5, h5, b1_, b2_, b3_, b4_, b5_, d12_, d13_, d14_, d15_, d23_, d24_, d25_, d34_, d35_, d45_, k1, k2, k3, k4, k5⟩ := HL59.out.at (.head _)
      exact ⟨l1, h1, L51, H51, l3, h3, l4, h4, l5, h5, by omega, by omega, by omega, by omega, by omega, by omega, by omega, by omega, by omega, by omega, by omega, by omega, by omega, by omega, by omega, k1, HNQ, k3, k4, k5⟩)
     clear g1 g2 g3 g4 g5 HNQ
     exact bodyPost_ret (results_cell_row (p := 6) (ty := 50) (by kernel_rfl) _ _ (R2) 50 _ (0, 0) _ rfl (HL59.out.get qGm3) Tryz.underlying50 rfl (by kernel_rfl)) rfl ⟨y1, z1, y3, y4, y5, ⟨d1, u1, d3, d4, d5, rfl⟩, HNN.out, HL59.out.below⟩
end Go.Proofs.YtioldepgoodipaaGreat
