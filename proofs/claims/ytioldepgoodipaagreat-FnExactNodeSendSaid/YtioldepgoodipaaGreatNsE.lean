/- Several texts in one, each with its own head: what is proved, and of what, stands there. -/
import Derived.Test.YtioldepgoodipaaGreatNsD
import Derived.Test.YtioldepgoodipaaGreatNsB
import Derived.Test.YtioldepgoodipaaGreatNsC
import Derived.Test.YtioldepgoodipaaGreatNsA
import Derived.Handy
import Derived.Lib.SmallJoins
import Derived.Deep.RegionHeld3
import Derived.Lib.SliceRun
namespace Go.Proofs.YtioldepgoodipaaGreat
open Go.RowKit
set_option linter.unusedVariables false

abbrev qE0 (p0 : Int) (p1 : Int) (p2 : Int) (p3 : Int) (p4 : Int) (p5 : Int) (p6 : Int) (p7 : Bool) (p8 : Int) (p9 : Int) : Array Value := #[.int .i64 p0, .int .i64 p1, .int .i64 p2, .int .i64 p3, .int .i64 p4, .int .i64 p5, .int .i64 p6, .bool p7, .int .i64 p8, .int .i64 p9]
abbrev qE1 : Array Value := #[.int .i64 0, .int .i64 0, .int .i64 0, .int .i64 0, .int .i64 0, .int .i64 0, .int .i64 0, .bool false, .int .i64 0, .int .i64 0]
abbrev qE2 (p0 : Int) (p1 : Int) (p2 : Int) (p3 : Int) (p4 : Int) (p5 : Int) (p6 : Int) (p7 : Bool) (p8 : Int) (p9 : Int) (p10 : Int) (p11 : Option Addr) (p12 : Nat) (p13 : Nat) (p14 : Option Addr) (p15 : Nat) (p16 : Nat) (p17 : Option Addr) (p18 : Nat) (p19 : Nat) (p20 : Option Addr) (p21 : Nat) (p22 : Nat) (p23 : Option Addr) (p24 : Nat) (p25 : Nat) (p26 : Int) : Array Value := #[.int .i64 p0, .int .i64 p1, .int .i64 p2, .int .i64 p3, .int .i64 p4, .int .i64 p5, .int .i64 p6, .bool p7, .int .i64 p8, .int .i64 p9, .int .i64 p10, .slice p11 p12 p13, .slice p14 p15 p16, .slice p17 p18 p19, .slice p20 p21 p22, .slice p23 p24 p25, .int .i64 p26]
abbrev qE3 (p0 : Int) (p1 : Int) (p2 : Int) (p3 : Int) (p4 : Int) (p5 : Int) (p6 : Int) (p7 : Bool) (p8 : Int) (p9 : Int) (p10 : Int) (p11 : Option Addr) (p12 : Nat) (p13 : Nat) : Array Value := #[.int .i64 p0, .int .i64 p1, .int .i64 p2, .int .i64 p3, .int .i64 p4, .int .i64 p5, .int .i64 p6, .bool p7, .int .i64 p8, .int .i64 p9, .int .i64 p10, .slice p11 p12 p13]
abbrev qE4 : Array Value := #[.int .i64 0, .int .i64 0, .int .i64 0, .int .i64 0, .int .i64 0, .int .i64 0, .int .i64 0, .bool false, .int .i64 0, .int .i64 0, .int .i64 0, .slice none 0 0]
abbrev qE5 : Array Value := #[.int .i64 0, .int .i64 0, .int .i64 0, .int .i64 0, .int .i64 0, .string ByteArray.empty, .int .i64 0]
abbrev qE6 : Array Value := #[.int .i64 0, .int .i64 0, .int .i64 0, .int .i64 0, .int .i64 0, .int .i64 0, .int .i64 0, .bool false, .int .i64 0, .int .i64 0, .int .i64 0, .slice none 0 0, .slice none 0 0, .slice none 0 0, .slice none 0 0, .slice none 0 0, .int .i64 0, .int .i64 0]
abbrev qE7 (p0 : Int) : Array Value := #[.int .i64 0, .int .i64 0, .int .i64 0, .int .i64 0, .int .i64 0, .int .i64 0, .int .i64 0, .bool false, .int .i64 0, .int .i64 0, .int .i64 0, .slice none 0 0, .slice none 0 0, .slice none 0 0, .slice none 0 0, .slice none 0 0, .int .i64 0, .int .i64 p0]
theorem qEm1 {α : Type _} {a0 a1 : α} {l : List α} : a1 ∈ a0 :: a1 :: l := (.tail _ (.head _))
def sameN (n m : Nm) : Bool := decide (n.u = m.u ∧ n.m = m.m ∧ n.i = m.i ∧ n.f = m.f ∧ n.c = m.c ∧ n.s = m.s ∧ n.y = m.y ∧ n.a = m.a)
def hearO (c : Cl) (s : Int) (m : Nm) : Cl × Bool × Int := if clB c = true ∧ okB m = true ∧ inB 0 255 s = true then ((hearC c s m (sameN c.n m)).1, (hearC c s m (sameN c.n m)).2, 0) else (zeroCl, false, 1)
section
variable {n : Nm} {ad st lf : Int} {l : List Int} {s : Int} {m : Nm}
end
end Go.Proofs.YtioldepgoodipaaGreat
namespace Go.Proofs.YtioldepgoodipaaGreat
open Go.RowKit
set_option linter.unusedVariables false

def dvOkB (d : Dv) : Bool := okB d.n && (inB 0 251 d.ad && inB 0 600 d.g)
theorem dvOkB_of {d : Dv} (h : dvOkB d = true) : okB d.n = true ∧ (0 ≤ d.ad ∧ d.ad ≤ 251) ∧ (0 ≤ d.g ∧ d.g ≤ 600) := by
 unfold dvOkB at h
 simp only [Bool.and_eq_true] at h
 exact ⟨h.1, inB_of h.2.1, inB_of h.2.2⟩
def behindB (a d : Dv) : Bool := nmLessB a.n d.n && !(a.ad == d.ad)
def dvsAt (l : List Dv) (i : Nat) : Bool := dvOkB (dvAt l i) && allR (fun k => behindB (dvAt l k) (dvAt l i)) i
def dvsB (l : List Dv) : Bool := decide (l.length ≤ 8) && allR (dvsAt l) l.length
theorem dvsB_of {l : List Dv} (k : dvsB l = true) : l.length ≤ 8 ∧ ∀ i, i < l.length → dvsAt l i = true := by
 unfold dvsB at k
 simp only [Bool.and_eq_true, decide_eq_true_eq] at k
 exact ⟨k.1, allR_of k.2⟩
theorem dvsB_long {l : List Dv} (k : 8 < l.length) : dvsB l = false := by
 unfold dvsB
 rw [decide_eq_false (by omega), Bool.false_and]
theorem dvsB_no {l : List Dv} {i : Nat} (hi : i < l.length) (k : dvsAt l i = false) : dvsB l = false := by
 unfold dvsB
 rw [allR_no hi k, Bool.and_false]
theorem dvsB_yes {l : List Dv} (h8 : l.length ≤ 8) (h : ∀ i, i < l.length → dvsAt l i = true) : dvsB l = true := by
 unfold dvsB
 rw [allR_yes h, decide_eq_true h8]
 rfl
theorem dvsAt_of {l : List Dv} {i : Nat} (h : dvsAt l i = true) : dvOkB (dvAt l i) = true ∧ ∀ k, k < i → behindB (dvAt l k) (dvAt l i) = true := by
 unfold dvsAt at h
 simp only [Bool.and_eq_true] at h
 exact ⟨h.1, allR_of h.2⟩
theorem dvsAt_mk {l : List Dv} {i : Nat} (h : dvOkB (dvAt l i) = true) (h2 : ∀ k, k < i → behindB (dvAt l k) (dvAt l i) = true) : dvsAt l i = true := by
 unfold dvsAt
 rw [h, allR_yes h2]
 rfl
theorem less_of {a b : Nm} (h : nmLessB a b = true) : nmN a < nmN b := by
 unfold nmLessB at h
 simp only [Bool.and_eq_true, decide_eq_true_eq] at h
 exact h.2.2
theorem less_mk {a b : Nm} (ha : okB a = true) (hb : okB b = true) (h : nmN a < nmN b) : nmLessB a b = true := by
 unfold nmLessB
 rw [ha, hb, decide_eq_true h]
 rfl
theorem behindB_of {a d : Dv} (h : behindB a d = true) : nmN a.n < nmN d.n ∧ a.ad ≠ d.ad := by
 unfold behindB at h
 simp only [Bool.and_eq_true, Bool.not_eq_true', beq_eq_false_iff_ne] at h
 exact ⟨less_of h.1, h.2⟩
def spAt (l : List Dv) (i : Nat) : Bool := dvOkB (dvAt l i) && ((decide (i = 0) || nmLessB (dvAt l (i - 1)).n (dvAt l i).n) && allR (fun k => !((dvAt l k).ad == (dvAt l i).ad)) i)
theorem spAt_same {l : List Dv} {i : Nat} (h : ∀ k, k < i → dvsAt l k = true) : spAt l i = dvsAt l i := by
 cases hq : dvsAt l i with
 | true =>
  obtain ⟨h1, h2⟩ := dvsAt_of hq
  unfold spAt
  rw [h1, allR_yes (fun k hk => by
   have := (behindB_of (h2 k hk)).2
   simpa using this)]
  rcases Nat.eq_zero_or_pos i with rfl | hi
  ·rfl
  ·have := h2 (i - 1) (by omega)
   unfold behindB at this
   rw [Bool.and_eq_true] at this
   rw [this.1]
   simp
 | false =>
  cases hs : spAt l i with
  | false => rfl
  | true =>
   unfold spAt at hs
   simp only [Bool.and_eq_true, Bool.or_eq_true, decide_eq_true_eq] at hs
   have hc : dvsAt l i = true := dvsAt_mk hs.1 (fun k hk => by
    have ha := allR_of hs.2.2 k hk
    have hl : nmLessB (dvAt l (i - 1)).n (dvAt l i).n = true := by
     rcases hs.2.1 with h0 | h0
     ·omega
     ·exact h0
    have hlt : nmN (dvAt l k).n < nmN (dvAt l i).n := by
     rcases Nat.eq_or_lt_of_le (Nat.le_sub_one_of_lt hk) with rfl | hk2
     ·exact less_of hl
     ·have h3 := (behindB_of ((dvsAt_of (h (i - 1) (by omega))).2 k hk2)).1
      have := less_of hl
      omega
    unfold behindB
    rw [ha, less_mk (dvOkB_of (dvsAt_of (h k hk)).1).1 (dvOkB_of hs.1).1 hlt]
    rfl)
   rw [hc] at hq
   cases hq
def staysB (ad : Int) (n : Nm) (d : Dv) : Bool := !(sameN d.n n) && !(d.ad == ad)
def keptD (l : List Dv) (ad : Int) (n : Nm) : List Dv := l.filter (staysB ad n)
def aheadD (l : List Dv) (n : Nm) : Nat := (l.takeWhile fun d => nmLessB d.n n).length
def hearD (l : List Dv) (ad : Int) (n : Nm) : List Dv :=
 if ad ≤ 251 ∧ (keptD l ad n).length < 8 then (keptD l ad n).take (aheadD (keptD l ad n) n) ++ ⟨n, ad, 0⟩ :: (keptD l ad n).drop (aheadD (keptD l ad n) n) else keptD l ad n
def hearV (l : List Dv) (ad : Int) (n : Nm) : List Dv :=
 if 400 < l.length then [] else if (dvsB l && (okB n && inB 0 255 ad)) = true then hearD l ad n else l
def tickD (l : List Dv) : List Dv := (l.filter fun d => decide (d.g < 600)).map fun d => ⟨d.n, d.ad, d.g + 1⟩
def tickDV (l : List Dv) : List Dv := if dvsB l = true then tickD l else []
def addrD (l : List Dv) (n : Nm) : Int := match l.find? (fun d => sameN d.n n) with
 | some d => d.ad
 | none => -1
def addrV (l : List Dv) (n : Nm) : Int := if dvsB l = true then addrD l n else -1
end Go.Proofs.YtioldepgoodipaaGreat
namespace Go.Proofs.YtioldepgoodipaaGreat
open Go.RowKit
set_option linter.unusedVariables false

theorem dvAt_take {l : List Dv} {i k : Nat} (h : k < i) : dvAt (l.take i) k = dvAt l k := by
 unfold dvAt
 rw [List.getElem?_take, if_pos h]
theorem allR_same {f g : Nat → Bool} {n : Nat} (h : ∀ j, j < n → f j = g j) : allR f n = allR g n := by
 unfold allR
 rw [Bool.eq_iff_iff]
 simp only [List.all_eq_true, List.mem_range]
 exact ⟨fun k j hj => by rw [← h j hj]; exact k j hj, fun k j hj => by rw [h j hj]; exact k j hj⟩
theorem dv_nm (n0 n1 n2 n3 n4 n5 n6 : Int) (n7 : Bool) (ad g : Int) (j : Nat) (v : Value) (h : ([.int .i64 n0, .int .i64 n1, .int .i64 n2, .int .i64 n3, .int .i64 n4, .int .i64 n5, .int .i64 n6, .bool n7] : List Value)[j]? = some v) : ([.int .i64 n0, .int .i64 n1, .int .i64 n2, .int .i64 n3, .int .i64 n4, .int .i64 n5, .int .i64 n6, .bool n7, .int .i64 ad, .int .i64 g] : List Value)[j]? = some v := by
 rcases j with _ | _ | _ | _ | _ | _ | _ | _ | j
 all_goals first | exact h | simp at h
set_option maxRecDepth 100000 in
set_option maxHeartbeats 8000000 in
theorem deviceRight_any (x : Dv) (w : World) :
  Calls Tryz.prog 192 #[.agg (dvL x).toArray] w fun e w' => e = .returned (.bool (dvOkB x)) ∧ Below w.heap.size w w' := by
 obtain ⟨⟨n0, n1, n2, n3, n4, n5, n6, n7⟩, ad, g⟩ := x
 have HN := fun W => Lib.hid (implNameOk_any ⟨n0, n1, n2, n3, n4, n5, n6, n7⟩ W)
 obtain ⟨V, hV⟩ : ∃ V, dvOkB ⟨⟨n0, n1, n2, n3, n4, n5, n6, n7⟩, ad, g⟩ = V := ⟨_, rfl⟩
 have HV := Lib.hid (show (okB ⟨n0, n1, n2, n3, n4, n5, n6, n7⟩ && (inB 0 251 ad && inB 0 600 g)) = V from hV)
 rw [hV]
 unfold dvL
 unfold nmV at HN
 dsimp only at *
 generalize okB ⟨n0, n1, n2, n3, n4, n5, n6, n7⟩ = O at *
 clear hV
 go_enter Tryz.func192, Tryz.ntmps192
 go_wp2_with (first
  | ((with_reducible refine @id (wpList _ _ _ (Oper.mk _ (Op.box 162 (.tmp 0)) _ _ _ _ :: _) _ _) ?_); refine wpList_box_h rfl 162 (.tmp 0) rfl #[.int .i64 n0, .int .i64 n1, .int .i64 n2, .int .i64 n3, .int .i64 n4, .int .i64 n5, .int .i64 n6, .bool n7, .int .i64 ad, .int .i64 g] rfl ?_; intro w1 R1 e1 g1 b1; have HL1 := Lib.hid (show Lg w w1 [(R1, (qE0 n0 n1 n2 n3 n4 n5 n6 n7 ad g), 162)] [] from (Lg.first w).box e1 g1 b1); clear g1 b1 e1)
  | ((with_reducible refine @id (wpList _ _ _ (Oper.mk _ (Op.load 38 (.tmp 3)) _ _ _ _ :: _) _ _) ?_); refine wpList_load_at rfl 38 (.tmp 3) rfl (R1) 0 rfl 162 (qE0 n0 n1 n2 n3 n4 n5 n6 n7 ad g) (0, 0) (HL1.out.get (.head _)) [.int .i64 n0, .int .i64 n1, .int .i64 n2, .int .i64 n3, .int .i64 n4, .int .i64 n5, .int .i64 n6, .bool n7] rfl _ Tryz.underlying38 rfl (by kernel_rfl) ?_))
 refine ((HN _).out).mono ?_
 rintro e w2 ⟨rfl, h⟩
 have HL2 := Lib.hid (show Lg w w2 [(R1, (qE0 n0 n1 n2 n3 n4 n5 n6 n7 ad g), 162)] [] from HL1.out.kept h)
 clear h
 rcases O with _ | _
 ·skip
  go_wp2_with fail
  go_ret
  exact ⟨by rw [← HV.out]; rfl, HL2.out.below⟩
 go_wp2_with (first
  | ((with_reducible refine @id (wpList _ _ _ (Oper.mk _ (Op.load 2 (.tmp 7)) _ _ _ _ :: _) _ _) ?_); refine wpList_load_one (by kernel_rfl) 2 (.tmp 7) rfl (R1) 8 rfl 162 (qE0 n0 n1 n2 n3 n4 n5 n6 n7 ad g) (0, 0) (HL2.out.get (.head _)) (.int .i64 ad) rfl _ Tryz.underlying2 rfl (by kernel_rfl) ?_))
 refine (from0_any ad 251 _).mono ?_
 rcases c1 : inB 0 251 ad
 ·rintro e w' ⟨rfl, rfl⟩
  rw [c1] at HV
  go_wp2_with fail
  go_ret
  exact ⟨by rw [← HV.out]; rfl, HL2.out.below⟩
 rintro e w' ⟨rfl, rfl⟩
 go_wp2_with (first
  | ((with_reducible refine @id (wpList _ _ _ (Oper.mk _ (Op.load 2 (.tmp 12)) _ _ _ _ :: _) _ _) ?_); refine wpList_load_one (by kernel_rfl) 2 (.tmp 12) rfl (R1) 9 rfl 162 (qE0 n0 n1 n2 n3 n4 n5 n6 n7 ad g) (0, 0) (HL2.out.get (.head _)) (.int .i64 g) rfl _ Tryz.underlying2 rfl (by kernel_rfl) ?_))
 refine (from0_any g 600 _).mono ?_
 rintro e w' ⟨rfl, rfl⟩
 rw [c1] at HV
 go_wp2_with fail
 go_ret
 exact ⟨by rw [← HV.out]; rfl, HL2.out.below⟩
set_option maxRecDepth 100000 in
set_option maxHeartbeats 8000000 in
theorem mayFollow_any (a : Option Addr) (cap : Nat) (l : List Dv) (x : Dv) (w : World) (h : RsIn dvL 10 w a l) (hlen : l.length ≤ maxLen) :
  Calls Tryz.prog 193 #[.slice a l.length cap, .agg (dvL x).toArray] w fun e w' => e = .returned (.bool (allR (fun k => behindB (dvAt l k) x) l.length)) ∧ Below w.heap.size w w' := by
 unfold maxLen at hlen
 obtain ⟨V, hV⟩ : ∃ V, allR (fun k => behindB (dvAt l k) x) l.length = V := ⟨_, rfl⟩
 have HNo := Lib.hid (fun k (hk : k < l.length) (h : behindB (dvAt l k) x = false) => hV.symm.trans (allR_no (f := fun k => behindB (dvAt l k) x) hk h))
 have HYes := Lib.hid (fun (h : ∀ k, k < l.length → behindB (dvAt l k) x = true) => hV.symm.trans (allR_yes h))
 rw [hV]
 have HI := Lib.hid h
 clear hV h
 obtain ⟨N, hN⟩ : ∃ N, l.length = N := ⟨_, rfl⟩
 have HN := Lib.hid hN
 rw [hN] at hlen HNo HYes ⊢
 clear hN
 obtain ⟨x', hx'⟩ : ∃ x', x = x' := ⟨_, rfl⟩
 have HX := Lib.hid hx'
 rw [hx']
 clear hx'
 obtain ⟨⟨n0, n1, n2, n3, n4, n5, n6, n7⟩, ad, g⟩ := x'
 unfold dvL
 dsimp only
 go_enter Tryz.func193, Tryz.ntmps193
 go_wp2_with (first
  | ((with_reducible refine @id (wpList _ _ _ (Oper.mk _ (Op.box 162 (.tmp 1)) _ _ _ _ :: _) _ _) ?_); refine wpList_box_h rfl 162 (.tmp 1) rfl #[.int .i64 n0, .int .i64 n1, .int .i64 n2, .int .i64 n3, .int .i64 n4, .int .i64 n5, .int .i64 n6, .bool n7, .int .i64 ad, .int .i64 g] rfl ?_; intro w1 R1 e1 g1 b1; have HL1 := Lib.hid (show Lg w w1 [(R1, (qE0 n0 n1 n2 n3 n4 n5 n6 n7 ad g), 162)] [] from (Lg.first w).box e1 g1 b1); clear g1 b1 e1))
 have HRB := Lib.hid (HL1.out.get (.head _))
 have HB1 := Lib.hid HL1.out.below
 have HI1 := Lib.hid (HI.out.kept HB1.out)
 clear HL1 HI
 go_loopw [6, 9] (fun _ i wr => ∃ k : Nat, i = .int .i64 (k : Int) ∧ k ≤ N ∧ (∀ j, j < k → behindB (dvAt l j) x = true) ∧ Below w1.heap.size w1 wr) (fun _ i _ => N - (intOf i).toNat)
 case atStart => exact ⟨0, rfl, by omega, fun j hj => absurd hj (by omega), Below.refl _ _⟩
 case round =>
  obtain ⟨k, rfl, hk, hall, hb⟩ := hrel
  have HA := Lib.hid hall
  have HR1 := Lib.hid ((hb.block R1 (Array.getElem?_eq_some_iff.1 HRB.out).1).trans HRB.out)
  clear hall
  by_cases hkn : k < N
  ·have hkl : k < l.length := by have := HN.out; omega
   have hi1 : (0 : Int) ≤ (k : Int) := by omega
   have hi2 : (k : Int) < (N : Int) := by omega
   obtain ⟨B, o, ha, hlt, hcs⟩ := HI1.out.at (by omega)
   have HCs := Lib.hid (fun j v hv => (hb.cell (p := ⟨B, _, none⟩) hlt).trans (hcs k _ (dvAt_some hkl) j v hv))
   have HNok := Lib.hid (HNo.out k hkn)
   have HE := Lib.hid (show behindB (dvAt l k) x = (nmLessB (dvAt l k).n x.n && !((dvAt l k).ad == x.ad)) from rfl)
   have HLs := fun W => Lib.hid (implNameLess_any (dvAt l k).n x.n W)
   rw [HX.out] at HE HLs
   clear hcs
   subst ha
   generalize hy : dvAt l k = y at HCs HE HLs
   have HY := Lib.hid hy
   clear hy
   obtain ⟨⟨m0, m1, m2, m3, m4, m5, m6, m7⟩, yad, yg⟩ := y
   unfold dvL at HCs
   unfold nmV at HLs
   dsimp only at HCs HE HLs
   generalize nmLessB ⟨m0, m1, m2, m3, m4, m5, m6, m7⟩ ⟨n0, n1, n2, n3, n4, n5, n6, n7⟩ = Ls at *
   go_wp2_with (first
    | ((with_reducible refine @id (wpList _ _ _ (Oper.mk _ (Op.load 162 (.tmp 11)) _ _ _ _ :: _) _ _) ?_); refine wpList_load_cells rfl 162 (.tmp 11) rfl B (o + k * 10) rfl [.int .i64 m0, .int .i64 m1, .int .i64 m2, .int .i64 m3, .int .i64 m4, .int .i64 m5, .int .i64 m6, .bool m7, .int .i64 yad, .int .i64 yg] HCs.out _ Tryz.underlying162 rfl (by kernel_rfl) ?_)
    | ((with_reducible refine @id (wpList _ _ _ (Oper.mk _ (Op.alloc 162) _ _ _ _ :: _) _ _) ?_); refine wpList_alloc_h rfl 162 rfl (.agg #[.int .i64 0, .int .i64 0, .int .i64 0, .int .i64 0, .int .i64 0, .int .i64 0, .int .i64 0, .bool false, .int .i64 0, .int .i64 0]) (by kernel_rfl) #[.int .i64 0, .int .i64 0, .int .i64 0, .int .i64 0, .int .i64 0, .int .i64 0, .int .i64 0, .bool false, .int .i64 0, .int .i64 0] rfl ?_; intro v1 qR1 e1 g1 b1; have KL1 := Lib.hid (show Lg wr v1 [(qR1, (qE1), 162)] [] from (Lg.first wr).box e1 g1 b1); clear g1 b1 e1)
    | ((with_reducible refine @id (wpList _ _ _ (Oper.mk _ (Op.store 162 (.tmp 6) (.tmp 12)) _ _ _ _ :: _) _ _) ?_); refine wpList_put_at rfl 162 (.tmp 6) (.tmp 12) rfl rfl (qR1) 0 rfl _ rfl #[.int .i64 m0, .int .i64 m1, .int .i64 m2, .int .i64 m3, .int .i64 m4, .int .i64 m5, .int .i64 m6, .bool m7, .int .i64 yad, .int .i64 yg] rfl 162 (qE1) #[.int .i64 m0, .int .i64 m1, .int .i64 m2, .int .i64 m3, .int .i64 m4, .int .i64 m5, .int .i64 m6, .bool m7, .int .i64 yad, .int .i64 yg] (KL1.out.get (.head _)) (by kernel_rfl) (by kernel_rfl) (by kernel_rfl) (by kernel_rfl) ?_; intro v2 g2 o2; have KL2 := Lib.hid (show Lg wr v2 [(qR1, (qE0 m0 m1 m2 m3 m4 m5 m6 m7 yad yg), 162)] [] from KL1.out.put 0 rfl g2 o2 (fun _ h => nomatch h) (fun _ h => nomatch h) rfl); clear g2 o2; have hb2 := hb.trans (KL2.out.below.mono hb.size); have HRv := Lib.hid ((KL2.out.below.block R1 (Array.getElem?_eq_some_iff.1 HR1.out).1).trans HR1.out); have HXv := Lib.hid (KL2.out.get (.head _)))
    | ((with_reducible refine @id (wpList _ _ _ (Oper.mk _ (Op.load 38 (.tmp 13)) _ _ _ _ :: _) _ _) ?_); refine wpList_load_at rfl 38 (.tmp 13) rfl (qR1) 0 rfl 162 #[.int .i64 m0, .int .i64 m1, .int .i64 m2, .int .i64 m3, .int .i64 m4, .int .i64 m5, .int .i64 m6, .bool m7, .int .i64 yad, .int .i64 yg] (0, 0) HXv.out [.int .i64 m0, .int .i64 m1, .int .i64 m2, .int .i64 m3, .int .i64 m4, .int .i64 m5, .int .i64 m6, .bool m7] rfl _ Tryz.underlying38 rfl (by kernel_rfl) ?_)
    | ((with_reducible refine @id (wpList _ _ _ (Oper.mk _ (Op.load 38 (.tmp 15)) _ _ _ _ :: _) _ _) ?_); refine wpList_load_at rfl 38 (.tmp 15) rfl (R1) 0 rfl 162 #[.int .i64 n0, .int .i64 n1, .int .i64 n2, .int .i64 n3, .int .i64 n4, .int .i64 n5, .int .i64 n6, .bool n7, .int .i64 ad, .int .i64 g] (0, 0) HRv.out [.int .i64 n0, .int .i64 n1, .int .i64 n2, .int .i64 n3, .int .i64 n4, .int .i64 n5, .int .i64 n6, .bool n7] rfl _ Tryz.underlying38 rfl (by kernel_rfl) ?_))
   refine (HLs _).out.mono ?_
   rintro e v3 ⟨rfl, h3⟩
   have hb3 := hb2.trans (h3.mono hb2.size)
   have HR3 := Lib.hid ((h3.block R1 (Array.getElem?_eq_some_iff.1 HRv.out).1).trans HRv.out)
   have HX3 := Lib.hid ((h3.block qR1 (Array.getElem?_eq_some_iff.1 HXv.out).1).trans HXv.out)
   clear h3
   rcases Ls with _ | _
   ·have hv := Lib.hid (HNok.out (by rw [HY.out, HX.out, HE.out]; rfl))
    go_wp2_with fail
    go_ret
    exact ⟨by rw [hv.out]; rfl, HB1.out.trans (hb3.mono HB1.out.size)⟩
   by_cases had : yad = ad
   ·have hab : (yad == ad) = true := by simp [had]
    have hv := Lib.hid (HNok.out (by rw [HY.out, HX.out, HE.out, hab]; rfl))
    clear had
    go_wp2_with (first
     | ((with_reducible refine @id (wpList _ _ _ (Oper.mk _ (Op.load 2 (.tmp 20)) _ _ _ _ :: _) _ _) ?_); refine wpList_load_one (by kernel_rfl) 2 (.tmp 20) rfl qR1 8 rfl 162 #[.int .i64 m0, .int .i64 m1, .int .i64 m2, .int .i64 m3, .int .i64 m4, .int .i64 m5, .int .i64 m6, .bool m7, .int .i64 yad, .int .i64 yg] (0, 0) HX3.out (.int .i64 yad) rfl _ Tryz.underlying2 rfl (by kernel_rfl) ?_)
     | ((with_reducible refine @id (wpList _ _ _ (Oper.mk _ (Op.load 2 (.tmp 22)) _ _ _ _ :: _) _ _) ?_); refine wpList_load_one (by kernel_rfl) 2 (.tmp 22) rfl R1 8 rfl 162 #[.int .i64 n0, .int .i64 n1, .int .i64 n2, .int .i64 n3, .int .i64 n4, .int .i64 n5, .int .i64 n6, .bool n7, .int .i64 ad, .int .i64 g] (0, 0) HR3.out (.int .i64 ad) rfl _ Tryz.underlying2 rfl (by kernel_rfl) ?_))
    go_ret
    exact ⟨by rw [hv.out]; rfl, HB1.out.trans (hb3.mono HB1.out.size)⟩
   have hab : (yad == ad) = false := by simpa using had
   have HT := Lib.hid (show behindB (dvAt l k) x = true by rw [HY.out, HX.out, HE.out, hab]; rfl)
   clear had
   go_wp2_with (first
    | ((with_reducible refine @id (wpList _ _ _ (Oper.mk _ (Op.load 2 (.tmp 20)) _ _ _ _ :: _) _ _) ?_); refine wpList_load_one (by kernel_rfl) 2 (.tmp 20) rfl qR1 8 rfl 162 #[.int .i64 m0, .int .i64 m1, .int .i64 m2, .int .i64 m3, .int .i64 m4, .int .i64 m5, .int .i64 m6, .bool m7, .int .i64 yad, .int .i64 yg] (0, 0) HX3.out (.int .i64 yad) rfl _ Tryz.underlying2 rfl (by kernel_rfl) ?_)
    | ((with_reducible refine @id (wpList _ _ _ (Oper.mk _ (Op.load 2 (.tmp 22)) _ _ _ _ :: _) _ _) ?_); refine wpList_load_one (by kernel_rfl) 2 (.tmp 22) rfl R1 8 rfl 162 #[.int .i64 n0, .int .i64 n1, .int .i64 n2, .int .i64 n3, .int .i64 n4, .int .i64 n5, .int .i64 n6, .bool n7, .int .i64 ad, .int .i64 g] (0, 0) HR3.out (.int .i64 ad) rfl _ Tryz.underlying2 rfl (by kernel_rfl) ?_))
   go_roundw
   case rel => exact ⟨k + 1, by go_num, by omega, fun j hj => (Nat.lt_or_ge j k).elim (HA.out j) (fun g => (show j = k by omega) ▸ HT.out), hb3⟩
   case measure => simp [intOf]; omega
  ·have hv := Lib.hid (HYes.out (fun j hj => HA.out j (by omega)))
   go_wp2_with fail
   go_ret
   exact ⟨by rw [hv.out]; rfl, HB1.out.trans (hb.mono HB1.out.size)⟩
set_option maxRecDepth 100000 in
set_option maxHeartbeats 8000000 in
theorem implDevicesRight_any (a : Option Addr) (cap : Nat) (l : List Dv) (w : World) (h : RsIn dvL 10 w a l) (hlen : l.length ≤ maxLen) (hcap : l.length ≤ cap) :
  Calls Tryz.prog 130 #[.slice a l.length cap] w fun e w' => e = .returned (.bool (dvsB l)) ∧ Below w.heap.size w w' := by
 have hlen' := hlen
 unfold maxLen at hlen
 obtain ⟨V, hV⟩ : ∃ V, dvsB l = V := ⟨_, rfl⟩
 have HVl := Lib.hid (fun k => hV.symm.trans (@dvsB_long l k))
 have HVi := Lib.hid (fun i hi k => hV.symm.trans (@dvsB_no l i hi k))
 have HVy := Lib.hid (fun k1 k2 => hV.symm.trans (@dvsB_yes l k1 k2))
 rw [hV]
 have HI := Lib.hid h
 have HMf := fun W x k (hW : RsIn dvL 10 W a l) (hk : k ≤ l.length) => Lib.hid (show Calls Tryz.prog 193 #[.slice a k cap, .agg (dvL x).toArray] W fun e w' => e = .returned (.bool (allR (fun j => behindB (dvAt l j) x) k)) ∧ Below W.heap.size W w' from by
  have := mayFollow_any a cap (l.take k) x W (hW.take k) (by rw [List.length_take]; omega)
  rw [List.length_take, Nat.min_eq_left hk] at this
  rwa [show allR (fun j => behindB (dvAt (l.take k) j) x) k = allR (fun j => behindB (dvAt l j) x) k from allR_same (fun j hj => by rw [dvAt_take hj])] at this)
 clear h hV hlen'
 obtain ⟨N, hN⟩ : ∃ N, l.length = N := ⟨_, rfl⟩
 have HN := Lib.hid hN
 rw [hN] at hlen hcap HMf ⊢
 clear hN
 by_cases g1 : 8 < N
 ·have hd : decide (8 < (N : Int)) = true := decide_eq_true (by omega)
  have hv := Lib.hid (HVl.out (by have := HN.out; omega))
  go_enter Tryz.func130, Tryz.ntmps130
  go_wp2_with fail
  go_ret
  exact ⟨by rw [hv.out]; rfl, Below.refl _ _⟩
 have hd : decide (8 < (N : Int)) = false := decide_eq_false (by omega)
 go_enter Tryz.func130, Tryz.ntmps130
 go_wp2_with fail
 go_loopw [3, 4, 10] (fun _ _ i wr => ∃ k : Nat, i = .int .i64 (k : Int) ∧ k ≤ N ∧ (∀ j, j < k → dvsAt l j = true) ∧ Below w.heap.size w wr) (fun _ _ i _ => N - (intOf i).toNat)
 case atStart => exact ⟨0, rfl, by omega, fun j hj => absurd hj (by omega), Below.refl _ _⟩
 case round =>
  obtain ⟨k, rfl, hk, hall, hb⟩ := hrel
  have HA := Lib.hid hall
  clear hall
  by_cases hkn : k < N
  ·have hkl : k < l.length := by have := HN.out; omega
   have hi1 : (0 : Int) ≤ (k : Int) := by omega
   have hi2 : (k : Int) < (N : Int) := by omega
   have hi3 : (k : Int) ≤ (cap : Int) := by omega
   obtain ⟨B, o, ha, hlt, hcs⟩ := HI.out.at (by omega)
   have HCs := Lib.hid (fun j v hv => (hb.cell (p := ⟨B, _, none⟩) hlt).trans (hcs k _ (dvAt_some hkl) j v hv))
   have HNo := Lib.hid (HVi.out k hkl)
   have HE := Lib.hid (show dvsAt l k = (dvOkB (dvAt l k) && allR (fun j => behindB (dvAt l j) (dvAt l k)) k) from rfl)
   have HDr := fun W => Lib.hid (deviceRight_any (dvAt l k) W)
   have HMk := fun W hW => Lib.hid ((HMf W (dvAt l k) k hW (by omega)).out)
   clear hcs HMf
   subst ha
   generalize dvOkB (dvAt l k) = O1 at *
   generalize allR (fun j => behindB (dvAt l j) (dvAt l k)) k = O2 at *
   generalize dvAt l k = y at HCs HDr HMk
   obtain ⟨⟨n0, n1, n2, n3, n4, n5, n6, n7⟩, ad, g⟩ := y
   unfold dvL at HCs HDr HMk
   dsimp only at HCs HDr HMk
   go_wp2_with (first
    | ((with_reducible refine @id (wpList _ _ _ (Oper.mk _ (Op.load 162 (.tmp 13)) _ _ _ _ :: _) _ _) ?_); refine wpList_load_cells rfl 162 (.tmp 13) rfl B (o + k * 10) rfl [.int .i64 n0, .int .i64 n1, .int .i64 n2, .int .i64 n3, .int .i64 n4, .int .i64 n5, .int .i64 n6, .bool n7, .int .i64 ad, .int .i64 g] HCs.out _ Tryz.underlying162 rfl (by kernel_rfl) ?_)
    | ((with_reducible refine @id (wpList _ _ _ (Oper.mk _ (Op.alloc 162) _ _ _ _ :: _) _ _) ?_); refine wpList_alloc_h rfl 162 rfl (.agg #[.int .i64 0, .int .i64 0, .int .i64 0, .int .i64 0, .int .i64 0, .int .i64 0, .int .i64 0, .bool false, .int .i64 0, .int .i64 0]) (by kernel_rfl) #[.int .i64 0, .int .i64 0, .int .i64 0, .int .i64 0, .int .i64 0, .int .i64 0, .int .i64 0, .bool false, .int .i64 0, .int .i64 0] rfl ?_; intro v1 qR1 e1 g1 b1; have KL1 := Lib.hid (show Lg wr v1 [(qR1, (qE1), 162)] [] from (Lg.first wr).box e1 g1 b1); clear g1 b1 e1)
    | ((with_reducible refine @id (wpList _ _ _ (Oper.mk _ (Op.store 162 (.tmp 4) (.tmp 14)) _ _ _ _ :: _) _ _) ?_); refine wpList_put_at rfl 162 (.tmp 4) (.tmp 14) rfl rfl (qR1) 0 rfl _ rfl #[.int .i64 n0, .int .i64 n1, .int .i64 n2, .int .i64 n3, .int .i64 n4, .int .i64 n5, .int .i64 n6, .bool n7, .int .i64 ad, .int .i64 g] rfl 162 (qE1) #[.int .i64 n0, .int .i64 n1, .int .i64 n2, .int .i64 n3, .int .i64 n4, .int .i64 n5, .int .i64 n6, .bool n7, .int .i64 ad, .int .i64 g] (KL1.out.get (.head _)) (by kernel_rfl) (by kernel_rfl) (by kernel_rfl) (by kernel_rfl) ?_; intro v2 g2 o2; have KL2 := Lib.hid (show Lg wr v2 [(qR1, (qE0 n0 n1 n2 n3 n4 n5 n6 n7 ad g), 162)] [] from KL1.out.put 0 rfl g2 o2 (fun _ h => nomatch h) (fun _ h => nomatch h) rfl); clear g2 o2; have hb2 := hb.trans (KL2.out.below.mono hb.size); have HXv := Lib.hid (KL2.out.get (.head _))))
   have HIv := Lib.hid (fun (W : World) (hW : Below v2.heap.size v2 W) => (HI.out.kept hb2).kept hW)
   rcases O1 with _ | _
   ·have hv := Lib.hid (HNo.out (by rw [HE.out]; rfl))
    refine wp_region_quiet (C := fun W => Below v2.heap.size v2 W) (by kernel_rfl) (by kernel_rfl) (Below.refl _ _).drew ?_
    dsimp only
    try simp only [Act.put, List.setIfInBounds_toArray, List.set_cons_zero, List.set_cons_succ]
    go_big_quiet_want; refine ⟨.agg #[.int .i64 n0, .int .i64 n1, .int .i64 n2, .int .i64 n3, .int .i64 n4, .int .i64 n5, .int .i64 n6, .bool n7, .int .i64 ad, .int .i64 g], fun W hW => (quietLoadCells 162 (.tmp 4) rfl qR1 0 rfl [.int .i64 n0, .int .i64 n1, .int .i64 n2, .int .i64 n3, .int .i64 n4, .int .i64 n5, .int .i64 n6, .bool n7, .int .i64 ad, .int .i64 g] (rowAll HXv.out hW) _ Tryz.underlying162 rfl (by kernel_rfl)), ?_⟩; simp only [Act.put, List.setIfInBounds_toArray, List.set_cons_zero, List.set_cons_succ]; go_big_quiet_on
    go_big_quiet_want; go_big_quiet_op; refine ⟨_, fun W hW => quietCall hW (HDr W).out, ?_⟩; go_big_quiet_on
    iterate 2 (go_big_quiet_want; go_big_quiet_op; first | go_big_quiet_on | (refine ⟨_, fun _ _ => rfl, ?_⟩; go_big_quiet_on))
    iterate 3 (first | go_big_quiet_skip | (go_big_quiet_want; go_big_quiet_op; first | go_big_quiet_on | (refine ⟨_, fun _ _ => rfl, ?_⟩; go_big_quiet_on)))
    first | go_big_quiet_skip | (go_big_quiet_want; refine ⟨.agg #[.int .i64 n0, .int .i64 n1, .int .i64 n2, .int .i64 n3, .int .i64 n4, .int .i64 n5, .int .i64 n6, .bool n7, .int .i64 ad, .int .i64 g], fun W hW => (quietLoadCells 162 (.tmp 4) rfl qR1 0 rfl [.int .i64 n0, .int .i64 n1, .int .i64 n2, .int .i64 n3, .int .i64 n4, .int .i64 n5, .int .i64 n6, .bool n7, .int .i64 ad, .int .i64 g] (rowAll HXv.out hW) _ Tryz.underlying162 rfl (by kernel_rfl)), ?_⟩; simp only [Act.put, List.setIfInBounds_toArray, List.set_cons_zero, List.set_cons_succ]; go_big_quiet_on)
    first | go_big_quiet_skip | (go_big_quiet_want; go_big_quiet_op; refine ⟨_, fun W hW => quietCall hW (HMk W (HIv.out W hW)).out, ?_⟩; go_big_quiet_on)
    first | go_big_quiet_skip | (go_big_quiet_want; go_big_quiet_op; first | go_big_quiet_on | (refine ⟨_, fun _ _ => rfl, ?_⟩; go_big_quiet_on))
    go_big_quiet_want; go_big_quiet_op; first | go_big_quiet_on | (refine ⟨_, fun _ _ => rfl, ?_⟩; go_big_quiet_on)
    refine wpQuiet_nil ?_
    intro X hX
    go_wp2_with fail
    go_ret
    exact ⟨by rw [hv.out]; rfl, hb2.trans (hX.mono hb2.size)⟩
   rcases O2 with _ | _
   ·have hv := Lib.hid (HNo.out (by rw [HE.out]; rfl))
    refine wp_region_quiet (C := fun W => Below v2.heap.size v2 W) (by kernel_rfl) (by kernel_rfl) (Below.refl _ _).drew ?_
    dsimp only
    try simp only [Act.put, List.setIfInBounds_toArray, List.set_cons_zero, List.set_cons_succ]
    go_big_quiet_want; refine ⟨.agg #[.int .i64 n0, .int .i64 n1, .int .i64 n2, .int .i64 n3, .int .i64 n4, .int .i64 n5, .int .i64 n6, .bool n7, .int .i64 ad, .int .i64 g], fun W hW => (quietLoadCells 162 (.tmp 4) rfl qR1 0 rfl [.int .i64 n0, .int .i64 n1, .int .i64 n2, .int .i64 n3, .int .i64 n4, .int .i64 n5, .int .i64 n6, .bool n7, .int .i64 ad, .int .i64 g] (rowAll HXv.out hW) _ Tryz.underlying162 rfl (by kernel_rfl)), ?_⟩; simp only [Act.put, List.setIfInBounds_toArray, List.set_cons_zero, List.set_cons_succ]; go_big_quiet_on
    go_big_quiet_want; go_big_quiet_op; refine ⟨_, fun W hW => quietCall hW (HDr W).out, ?_⟩; go_big_quiet_on
    iterate 2 (go_big_quiet_want; go_big_quiet_op; first | go_big_quiet_on | (refine ⟨_, fun _ _ => rfl, ?_⟩; go_big_quiet_on))
    iterate 3 (first | go_big_quiet_skip | (go_big_quiet_want; go_big_quiet_op; first | go_big_quiet_on | (refine ⟨_, fun _ _ => rfl, ?_⟩; go_big_quiet_on)))
    first | go_big_quiet_skip | (go_big_quiet_want; refine ⟨.agg #[.int .i64 n0, .int .i64 n1, .int .i64 n2, .int .i64 n3, .int .i64 n4, .int .i64 n5, .int .i64 n6, .bool n7, .int .i64 ad, .int .i64 g], fun W hW => (quietLoadCells 162 (.tmp 4) rfl qR1 0 rfl [.int .i64 n0, .int .i64 n1, .int .i64 n2, .int .i64 n3, .int .i64 n4, .int .i64 n5, .int .i64 n6, .bool n7, .int .i64 ad, .int .i64 g] (rowAll HXv.out hW) _ Tryz.underlying162 rfl (by kernel_rfl)), ?_⟩; simp only [Act.put, List.setIfInBounds_toArray, List.set_cons_zero, List.set_cons_succ]; go_big_quiet_on)
    first | go_big_quiet_skip | (go_big_quiet_want; go_big_quiet_op; refine ⟨_, fun W hW => quietCall hW (HMk W (HIv.out W hW)).out, ?_⟩; go_big_quiet_on)
    first | go_big_quiet_skip | (go_big_quiet_want; go_big_quiet_op; first | go_big_quiet_on | (refine ⟨_, fun _ _ => rfl, ?_⟩; go_big_quiet_on))
    go_big_quiet_want; go_big_quiet_op; first | go_big_quiet_on | (refine ⟨_, fun _ _ => rfl, ?_⟩; go_big_quiet_on)
    refine wpQuiet_nil ?_
    intro X hX
    go_wp2_with fail
    go_ret
    exact ⟨by rw [hv.out]; rfl, hb2.trans (hX.mono hb2.size)⟩
   have HT := Lib.hid (show dvsAt l k = true by rw [HE.out]; rfl)
   refine wp_region_quiet (C := fun W => Below v2.heap.size v2 W) (by kernel_rfl) (by kernel_rfl) (Below.refl _ _).drew ?_
   dsimp only
   try simp only [Act.put, List.setIfInBounds_toArray, List.set_cons_zero, List.set_cons_succ]
   go_big_quiet_want; refine ⟨.agg #[.int .i64 n0, .int .i64 n1, .int .i64 n2, .int .i64 n3, .int .i64 n4, .int .i64 n5, .int .i64 n6, .bool n7, .int .i64 ad, .int .i64 g], fun W hW => (quietLoadCells 162 (.tmp 4) rfl qR1 0 rfl [.int .i64 n0, .int .i64 n1, .int .i64 n2, .int .i64 n3, .int .i64 n4, .int .i64 n5, .int .i64 n6, .bool n7, .int .i64 ad, .int .i64 g] (rowAll HXv.out hW) _ Tryz.underlying162 rfl (by kernel_rfl)), ?_⟩; simp only [Act.put, List.setIfInBounds_toArray, List.set_cons_zero, List.set_cons_succ]; go_big_quiet_on
   go_big_quiet_want; go_big_quiet_op; refine ⟨_, fun W hW => quietCall hW (HDr W).out, ?_⟩; go_big_quiet_on
   iterate 2 (go_big_quiet_want; go_big_quiet_op; first | go_big_quiet_on | (refine ⟨_, fun _ _ => rfl, ?_⟩; go_big_quiet_on))
   iterate 3 (first | go_big_quiet_skip | (go_big_quiet_want; go_big_quiet_op; first | go_big_quiet_on | (refine ⟨_, fun _ _ => rfl, ?_⟩; go_big_quiet_on)))
   first | go_big_quiet_skip | (go_big_quiet_want; refine ⟨.agg #[.int .i64 n0, .int .i64 n1, .int .i64 n2, .int .i64 n3, .int .i64 n4, .int .i64 n5, .int .i64 n6, .bool n7, .int .i64 ad, .int .i64 g], fun W hW => (quietLoadCells 162 (.tmp 4) rfl qR1 0 rfl [.int .i64 n0, .int .i64 n1, .int .i64 n2, .int .i64 n3, .int .i64 n4, .int .i64 n5, .int .i64 n6, .bool n7, .int .i64 ad, .int .i64 g] (rowAll HXv.out hW) _ Tryz.underlying162 rfl (by kernel_rfl)), ?_⟩; simp only [Act.put, List.setIfInBounds_toArray, List.set_cons_zero, List.set_cons_succ]; go_big_quiet_on)
   first | go_big_quiet_skip | (go_big_quiet_want; go_big_quiet_op; refine ⟨_, fun W hW => quietCall hW (HMk W (HIv.out W hW)).out, ?_⟩; go_big_quiet_on)
   first | go_big_quiet_skip | (go_big_quiet_want; go_big_quiet_op; first | go_big_quiet_on | (refine ⟨_, fun _ _ => rfl, ?_⟩; go_big_quiet_on))
   go_big_quiet_want; go_big_quiet_op; first | go_big_quiet_on | (refine ⟨_, fun _ _ => rfl, ?_⟩; go_big_quiet_on)
   refine wpQuiet_nil ?_
   intro X hX
   go_wp2_with fail
   go_roundw
   case rel => exact ⟨k + 1, by go_num, by omega, fun j hj => (Nat.lt_or_ge j k).elim (HA.out j) (fun g => (show j = k by omega) ▸ HT.out), hb2.trans (hX.mono hb2.size)⟩
   case measure => simp [intOf]; omega
  ·have hv := Lib.hid (HVy.out (by have := HN.out; omega) (fun i hi => HA.out i (by have := HN.out; omega)))
   go_wp2_with fail
   go_ret
   exact ⟨by rw [hv.out]; rfl, hb⟩
set_option maxRecDepth 100000 in
set_option maxHeartbeats 8000000 in
theorem specDevicesRight_any (a : Option Addr) (cap : Nat) (l : List Dv) (w : World) (h : RsIn dvL 10 w a l) (hlen : l.length ≤ maxLen) :
  Calls Tryz.prog 81 #[.slice a l.length cap] w fun e w' => e = .returned (.bool (dvsB l)) ∧ Below w.heap.size w w' := by
 unfold maxLen at hlen
 obtain ⟨V, hV⟩ : ∃ V, dvsB l = V := ⟨_, rfl⟩
 have HVl := Lib.hid (fun k => hV.symm.trans (@dvsB_long l k))
 have HVi := Lib.hid (fun i hi k => hV.symm.trans (@dvsB_no l i hi k))
 have HVy := Lib.hid (fun k1 k2 => hV.symm.trans (@dvsB_yes l k1 k2))
 rw [hV]
 have HI := Lib.hid h
 clear h hV
 obtain ⟨N, hN⟩ : ∃ N, l.length = N := ⟨_, rfl⟩
 have HN := Lib.hid hN
 rw [hN] at hlen ⊢
 clear hN
 by_cases g1 : 8 < N
 ·have hd : decide (8 < (N : Int)) = true := decide_eq_true (by omega)
  have hv := Lib.hid (HVl.out (by have := HN.out; omega))
  go_enter Tryz.func81, Tryz.ntmps81
  go_wp2_with fail
  go_ret
  exact ⟨by rw [hv.out]; rfl, Below.refl _ _⟩
 have hd : decide (8 < (N : Int)) = false := decide_eq_false (by omega)
 go_enter Tryz.func81, Tryz.ntmps81
 go_wp2_with fail
 go_loopw [3, 4] (fun i _ wr => ∃ k : Nat, i = .int .i64 (k : Int) ∧ k ≤ N ∧ (∀ j, j < k → dvsAt l j = true) ∧ Below w.heap.size w wr) (fun i _ _ => N - (intOf i).toNat)
 case atStart => exact ⟨0, rfl, by omega, fun j hj => absurd hj (by omega), Below.refl _ _⟩
 case round =>
  obtain ⟨k, rfl, hk, hall, hb⟩ := hrel
  have HA := Lib.hid hall
  clear hall
  by_cases hkn : k < N
  ·have hkl : k < l.length := by have := HN.out; omega
   have hi1 : (0 : Int) ≤ (k : Int) := by omega
   have hi2 : (k : Int) < (N : Int) := by omega
   obtain ⟨B, o, ha, hlt, hcs⟩ := HI.out.at (by omega)
   have lB : B < wr.heap.size := Nat.lt_of_lt_of_le hlt hb.size
   have HCw := Lib.hid hcs
   have HCs := Lib.hid (fun j v hv => (hb.cell (p := ⟨B, _, none⟩) hlt).trans (hcs k _ (dvAt_some hkl) j v hv))
   have HNo := Lib.hid (HVi.out k hkl)
   have HE := Lib.hid (show dvsAt l k = ((okB (dvAt l k).n && (inB 0 251 (dvAt l k).ad && inB 0 600 (dvAt l k).g)) && ((decide (k = 0) || nmLessB (dvAt l (k - 1)).n (dvAt l k).n) && allR (fun t => !((dvAt l t).ad == (dvAt l k).ad)) k)) from (spAt_same HA.out).symm.trans rfl)
   have HNk := fun W => Lib.hid (specNameOk_any (dvAt l k).n W)
   have HPo := Lib.hid (fun (p : 0 < k) => (dvOkB_of (dvsAt_of (HA.out (k - 1) (by omega))).1).1)
   clear hcs
   subst ha
   generalize hy : dvAt l k = y at HCs HE HNk
   have HY := Lib.hid hy
   clear hy
   obtain ⟨⟨n0, n1, n2, n3, n4, n5, n6, n7⟩, ad, g⟩ := y
   unfold dvL at HCs
   unfold nmV at HNk
   dsimp only at HCs HE HNk
   have HCn := Lib.hid (show ∀ (j : Nat) v, ([.int .i64 n0, .int .i64 n1, .int .i64 n2, .int .i64 n3, .int .i64 n4, .int .i64 n5, .int .i64 n6, .bool n7] : List Value)[j]? = some v → wr.cell? ⟨B, o + k * 10 + j, none⟩ = some v from fun j v hv => HCs.out j v (dv_nm n0 n1 n2 n3 n4 n5 n6 n7 ad g j v hv))
   have HCa := Lib.hid (show wr.cell? ⟨B, o + k * 10 + 8, none⟩ = some (.int .i64 ad) from HCs.out 8 _ rfl)
   have HCg := Lib.hid (show wr.cell? ⟨B, o + k * 10 + 9, none⟩ = some (.int .i64 g) from HCs.out 9 _ rfl)
   clear HCs
   go_wp2_with fail
   rcases c0 : okB ⟨n0, n1, n2, n3, n4, n5, n6, n7⟩ with _ | _
   ·rw [c0] at HNk
    have hv := Lib.hid (HNo.out (by rw [HE.out, c0]; rfl))
    refine wp_region_quiet (C := fun W => Below wr.heap.size wr W) (by kernel_rfl) (by kernel_rfl) (Below.refl _ _).drew ?_
    dsimp only
    try simp only [Act.put, List.setIfInBounds_toArray, List.set_cons_zero, List.set_cons_succ]
    iterate 4 (go_big_quiet_want; go_big_quiet_op; first | go_big_quiet_on | (refine ⟨_, fun _ _ => rfl, ?_⟩; go_big_quiet_on))
    go_big_quiet_want; refine ⟨.agg #[.int .i64 n0, .int .i64 n1, .int .i64 n2, .int .i64 n3, .int .i64 n4, .int .i64 n5, .int .i64 n6, .bool n7], fun W hW => (quietLoadCells 38 (.tmp 17) rfl B (o + k * 10) rfl [.int .i64 n0, .int .i64 n1, .int .i64 n2, .int .i64 n3, .int .i64 n4, .int .i64 n5, .int .i64 n6, .bool n7] (fun j v hv => (hW.cell (p := ⟨B, o + k * 10 + j, none⟩) lB).trans (HCn.out j v hv)) _ Tryz.underlying38 rfl (by kernel_rfl)), ?_⟩; simp only [Act.put, List.setIfInBounds_toArray, List.set_cons_zero, List.set_cons_succ]; go_big_quiet_on
    go_big_quiet_want; go_big_quiet_op; refine ⟨_, fun W hW => quietCall hW (HNk W).out, ?_⟩; go_big_quiet_on
    iterate 2 (go_big_quiet_want; go_big_quiet_op; first | go_big_quiet_on | (refine ⟨_, fun _ _ => rfl, ?_⟩; go_big_quiet_on))
    iterate 4 (first | go_big_quiet_skip | (go_big_quiet_want; go_big_quiet_op; first | go_big_quiet_on | (refine ⟨_, fun _ _ => rfl, ?_⟩; go_big_quiet_on)))
    first | go_big_quiet_skip | (go_big_quiet_want; refine ⟨.int .i64 ad, fun W hW => (quietLoadOne 2 (.tmp 25) rfl B (o + k * 10 + 8) rfl (.int .i64 ad) ((hW.cell (p := ⟨B, o + k * 10 + 8, none⟩) lB).trans HCa.out) _ Tryz.underlying2 rfl), ?_⟩; simp only [Act.put, List.setIfInBounds_toArray, List.set_cons_zero, List.set_cons_succ]; go_big_quiet_on)
    first | go_big_quiet_skip | (go_big_quiet_want; go_big_quiet_op; refine ⟨_, fun W hW => (by have := quietSame hW (l05Addr_any ad W); rw [c1] at this; exact this), ?_⟩; go_big_quiet_on)
    first | go_big_quiet_skip | (go_big_quiet_want; go_big_quiet_op; first | go_big_quiet_on | (refine ⟨_, fun _ _ => rfl, ?_⟩; go_big_quiet_on))
    iterate 2 (go_big_quiet_want; go_big_quiet_op; first | go_big_quiet_on | (refine ⟨_, fun _ _ => rfl, ?_⟩; go_big_quiet_on))
    iterate 4 (first | go_big_quiet_skip | (go_big_quiet_want; go_big_quiet_op; first | go_big_quiet_on | (refine ⟨_, fun _ _ => rfl, ?_⟩; go_big_quiet_on)))
    first | go_big_quiet_skip | (go_big_quiet_want; refine ⟨.int .i64 g, fun W hW => (quietLoadOne 2 (.tmp 34) rfl B (o + k * 10 + 9) rfl (.int .i64 g) ((hW.cell (p := ⟨B, o + k * 10 + 9, none⟩) lB).trans HCg.out) _ Tryz.underlying2 rfl), ?_⟩; simp only [Act.put, List.setIfInBounds_toArray, List.set_cons_zero, List.set_cons_succ]; go_big_quiet_on)
    first | go_big_quiet_skip | (go_big_quiet_want; go_big_quiet_op; refine ⟨_, fun W hW => (by have := quietSame hW (l02Is_any g 0 600 W); rw [c2] at this; exact this), ?_⟩; go_big_quiet_on)
    first | go_big_quiet_skip | (go_big_quiet_want; go_big_quiet_op; first | go_big_quiet_on | (refine ⟨_, fun _ _ => rfl, ?_⟩; go_big_quiet_on))
    iterate 2 (go_big_quiet_want; go_big_quiet_op; first | go_big_quiet_on | (refine ⟨_, fun _ _ => rfl, ?_⟩; go_big_quiet_on))
    iterate 8 (first | go_big_quiet_skip | (go_big_quiet_want; go_big_quiet_op; first | go_big_quiet_on | (refine ⟨_, fun _ _ => rfl, ?_⟩; go_big_quiet_on)))
    first | go_big_quiet_skip | (go_big_quiet_want; refine ⟨.agg #[.int .i64 m0, .int .i64 m1, .int .i64 m2, .int .i64 m3, .int .i64 m4, .int .i64 m5, .int .i64 m6, .bool m7], fun W hW => (quietLoadCells 38 (.tmp 47) rfl B (o + q * 10) rfl [.int .i64 m0, .int .i64 m1, .int .i64 m2, .int .i64 m3, .int .i64 m4, .int .i64 m5, .int .i64 m6, .bool m7] (fun j v hv => (hW.cell (p := ⟨B, o + q * 10 + j, none⟩) lB).trans (HCm.out j v hv)) _ Tryz.underlying38 rfl (by kernel_rfl)), ?_⟩; simp only [Act.put, List.setIfInBounds_toArray, List.set_cons_zero, List.set_cons_succ]; go_big_quiet_on)
    iterate 4 (first | go_big_quiet_skip | (go_big_quiet_want; go_big_quiet_op; first | go_big_quiet_on | (refine ⟨_, fun _ _ => rfl, ?_⟩; go_big_quiet_on)))
    first | go_big_quiet_skip | (go_big_quiet_want; refine ⟨.agg #[.int .i64 n0, .int .i64 n1, .int .i64 n2, .int .i64 n3, .int .i64 n4, .int .i64 n5, .int .i64 n6, .bool n7], fun W hW => (quietLoadCells 38 (.tmp 52) rfl B (o + k * 10) rfl [.int .i64 n0, .int .i64 n1, .int .i64 n2, .int .i64 n3, .int .i64 n4, .int .i64 n5, .int .i64 n6, .bool n7] (fun j v hv => (hW.cell (p := ⟨B, o + k * 10 + j, none⟩) lB).trans (HCn.out j v hv)) _ Tryz.underlying38 rfl (by kernel_rfl)), ?_⟩; simp only [Act.put, List.setIfInBounds_toArray, List.set_cons_zero, List.set_cons_succ]; go_big_quiet_on)
    first | go_big_quiet_skip | (go_big_quiet_want; go_big_quiet_op; refine ⟨_, fun W hW => quietCall hW (HLs W).out, ?_⟩; go_big_quiet_on)
    iterate 2 (first | go_big_quiet_skip | (go_big_quiet_want; go_big_quiet_op; first | go_big_quiet_on | (refine ⟨_, fun _ _ => rfl, ?_⟩; go_big_quiet_on)))
    go_big_quiet_want; go_big_quiet_op; first | go_big_quiet_on | (refine ⟨_, fun _ _ => rfl, ?_⟩; go_big_quiet_on)
    refine wpQuiet_nil ?_
    intro wx hx
    go_wp2_with fail
    go_ret
    exact ⟨by rw [hv.out]; rfl, hb.trans (hx.mono hb.size)⟩
   rw [c0] at HNk
   rcases c1 : inB 0 251 ad with _ | _
   ·have hv := Lib.hid (HNo.out (by rw [HE.out, c0, c1]; rfl))
    refine wp_region_quiet (C := fun W => Below wr.heap.size wr W) (by kernel_rfl) (by kernel_rfl) (Below.refl _ _).drew ?_
    dsimp only
    try simp only [Act.put, List.setIfInBounds_toArray, List.set_cons_zero, List.set_cons_succ]
    iterate 4 (go_big_quiet_want; go_big_quiet_op; first | go_big_quiet_on | (refine ⟨_, fun _ _ => rfl, ?_⟩; go_big_quiet_on))
    go_big_quiet_want; refine ⟨.agg #[.int .i64 n0, .int .i64 n1, .int .i64 n2, .int .i64 n3, .int .i64 n4, .int .i64 n5, .int .i64 n6, .bool n7], fun W hW => (quietLoadCells 38 (.tmp 17) rfl B (o + k * 10) rfl [.int .i64 n0, .int .i64 n1, .int .i64 n2, .int .i64 n3, .int .i64 n4, .int .i64 n5, .int .i64 n6, .bool n7] (fun j v hv => (hW.cell (p := ⟨B, o + k * 10 + j, none⟩) lB).trans (HCn.out j v hv)) _ Tryz.underlying38 rfl (by kernel_rfl)), ?_⟩; simp only [Act.put, List.setIfInBounds_toArray, List.set_cons_zero, List.set_cons_succ]; go_big_quiet_on
    go_big_quiet_want; go_big_quiet_op; refine ⟨_, fun W hW => quietCall hW (HNk W).out, ?_⟩; go_big_quiet_on
    iterate 2 (go_big_quiet_want; go_big_quiet_op; first | go_big_quiet_on | (refine ⟨_, fun _ _ => rfl, ?_⟩; go_big_quiet_on))
    iterate 4 (first | go_big_quiet_skip | (go_big_quiet_want; go_big_quiet_op; first | go_big_quiet_on | (refine ⟨_, fun _ _ => rfl, ?_⟩; go_big_quiet_on)))
    first | go_big_quiet_skip | (go_big_quiet_want; refine ⟨.int .i64 ad, fun W hW => (quietLoadOne 2 (.tmp 25) rfl B (o + k * 10 + 8) rfl (.int .i64 ad) ((hW.cell (p := ⟨B, o + k * 10 + 8, none⟩) lB).trans HCa.out) _ Tryz.underlying2 rfl), ?_⟩; simp only [Act.put, List.setIfInBounds_toArray, List.set_cons_zero, List.set_cons_succ]; go_big_quiet_on)
    first | go_big_quiet_skip | (go_big_quiet_want; go_big_quiet_op; refine ⟨_, fun W hW => (by have := quietSame hW (l05Addr_any ad W); rw [c1] at this; exact this), ?_⟩; go_big_quiet_on)
    first | go_big_quiet_skip | (go_big_quiet_want; go_big_quiet_op; first | go_big_quiet_on | (refine ⟨_, fun _ _ => rfl, ?_⟩; go_big_quiet_on))
    iterate 2 (go_big_quiet_want; go_big_quiet_op; first | go_big_quiet_on | (refine ⟨_, fun _ _ => rfl, ?_⟩; go_big_quiet_on))
    iterate 4 (first | go_big_quiet_skip | (go_big_quiet_want; go_big_quiet_op; first | go_big_quiet_on | (refine ⟨_, fun _ _ => rfl, ?_⟩; go_big_quiet_on)))
    first | go_big_quiet_skip | (go_big_quiet_want; refine ⟨.int .i64 g, fun W hW => (quietLoadOne 2 (.tmp 34) rfl B (o + k * 10 + 9) rfl (.int .i64 g) ((hW.cell (p := ⟨B, o + k * 10 + 9, none⟩) lB).trans HCg.out) _ Tryz.underlying2 rfl), ?_⟩; simp only [Act.put, List.setIfInBounds_toArray, List.set_cons_zero, List.set_cons_succ]; go_big_quiet_on)
    first | go_big_quiet_skip | (go_big_quiet_want; go_big_quiet_op; refine ⟨_, fun W hW => (by have := quietSame hW (l02Is_any g 0 600 W); rw [c2] at this; exact this), ?_⟩; go_big_quiet_on)
    first | go_big_quiet_skip | (go_big_quiet_want; go_big_quiet_op; first | go_big_quiet_on | (refine ⟨_, fun _ _ => rfl, ?_⟩; go_big_quiet_on))
    iterate 2 (go_big_quiet_want; go_big_quiet_op; first | go_big_quiet_on | (refine ⟨_, fun _ _ => rfl, ?_⟩; go_big_quiet_on))
    iterate 8 (first | go_big_quiet_skip | (go_big_quiet_want; go_big_quiet_op; first | go_big_quiet_on | (refine ⟨_, fun _ _ => rfl, ?_⟩; go_big_quiet_on)))
    first | go_big_quiet_skip | (go_big_quiet_want; refine ⟨.agg #[.int .i64 m0, .int .i64 m1, .int .i64 m2, .int .i64 m3, .int .i64 m4, .int .i64 m5, .int .i64 m6, .bool m7], fun W hW => (quietLoadCells 38 (.tmp 47) rfl B (o + q * 10) rfl [.int .i64 m0, .int .i64 m1, .int .i64 m2, .int .i64 m3, .int .i64 m4, .int .i64 m5, .int .i64 m6, .bool m7] (fun j v hv => (hW.cell (p := ⟨B, o + q * 10 + j, none⟩) lB).trans (HCm.out j v hv)) _ Tryz.underlying38 rfl (by kernel_rfl)), ?_⟩; simp only [Act.put, List.setIfInBounds_toArray, List.set_cons_zero, List.set_cons_succ]; go_big_quiet_on)
    iterate 4 (first | go_big_quiet_skip | (go_big_quiet_want; go_big_quiet_op; first | go_big_quiet_on | (refine ⟨_, fun _ _ => rfl, ?_⟩; go_big_quiet_on)))
    first | go_big_quiet_skip | (go_big_quiet_want; refine ⟨.agg #[.int .i64 n0, .int .i64 n1, .int .i64 n2, .int .i64 n3, .int .i64 n4, .int .i64 n5, .int .i64 n6, .bool n7], fun W hW => (quietLoadCells 38 (.tmp 52) rfl B (o + k * 10) rfl [.int .i64 n0, .int .i64 n1, .int .i64 n2, .int .i64 n3, .int .i64 n4, .int .i64 n5, .int .i64 n6, .bool n7] (fun j v hv => (hW.cell (p := ⟨B, o + k * 10 + j, none⟩) lB).trans (HCn.out j v hv)) _ Tryz.underlying38 rfl (by kernel_rfl)), ?_⟩; simp only [Act.put, List.setIfInBounds_toArray, List.set_cons_zero, List.set_cons_succ]; go_big_quiet_on)
    first | go_big_quiet_skip | (go_big_quiet_want; go_big_quiet_op; refine ⟨_, fun W hW => quietCall hW (HLs W).out, ?_⟩; go_big_quiet_on)
    iterate 2 (first | go_big_quiet_skip | (go_big_quiet_want; go_big_quiet_op; first | go_big_quiet_on | (refine ⟨_, fun _ _ => rfl, ?_⟩; go_big_quiet_on)))
    go_big_quiet_want; go_big_quiet_op; first | go_big_quiet_on | (refine ⟨_, fun _ _ => rfl, ?_⟩; go_big_quiet_on)
    refine wpQuiet_nil ?_
    intro wx hx
    go_wp2_with fail
    go_ret
    exact ⟨by rw [hv.out]; rfl, hb.trans (hx.mono hb.size)⟩
   rcases c2 : inB 0 600 g with _ | _
   ·have hv := Lib.hid (HNo.out (by rw [HE.out, c0, c1, c2]; rfl))
    refine wp_region_quiet (C := fun W => Below wr.heap.size wr W) (by kernel_rfl) (by kernel_rfl) (Below.refl _ _).drew ?_
    dsimp only
    try simp only [Act.put, List.setIfInBounds_toArray, List.set_cons_zero, List.set_cons_succ]
    iterate 4 (go_big_quiet_want; go_big_quiet_op; first | go_big_quiet_on | (refine ⟨_, fun _ _ => rfl, ?_⟩; go_big_quiet_on))
    go_big_quiet_want; refine ⟨.agg #[.int .i64 n0, .int .i64 n1, .int .i64 n2, .int .i64 n3, .int .i64 n4, .int .i64 n5, .int .i64 n6, .bool n7], fun W hW => (quietLoadCells 38 (.tmp 17) rfl B (o + k * 10) rfl [.int .i64 n0, .int .i64 n1, .int .i64 n2, .int .i64 n3, .int .i64 n4, .int .i64 n5, .int .i64 n6, .bool n7] (fun j v hv => (hW.cell (p := ⟨B, o + k * 10 + j, none⟩) lB).trans (HCn.out j v hv)) _ Tryz.underlying38 rfl (by kernel_rfl)), ?_⟩; simp only [Act.put, List.setIfInBounds_toArray, List.set_cons_zero, List.set_cons_succ]; go_big_quiet_on
    go_big_quiet_want; go_big_quiet_op; refine ⟨_, fun W hW => quietCall hW (HNk W).out, ?_⟩; go_big_quiet_on
    iterate 2 (go_big_quiet_want; go_big_quiet_op; first | go_big_quiet_on | (refine ⟨_, fun _ _ => rfl, ?_⟩; go_big_quiet_on))
    iterate 4 (first | go_big_quiet_skip | (go_big_quiet_want; go_big_quiet_op; first | go_big_quiet_on | (refine ⟨_, fun _ _ => rfl, ?_⟩; go_big_quiet_on)))
    first | go_big_quiet_skip | (go_big_quiet_want; refine ⟨.int .i64 ad, fun W hW => (quietLoadOne 2 (.tmp 25) rfl B (o + k * 10 + 8) rfl (.int .i64 ad) ((hW.cell (p := ⟨B, o + k * 10 + 8, none⟩) lB).trans HCa.out) _ Tryz.underlying2 rfl), ?_⟩; simp only [Act.put, List.setIfInBounds_toArray, List.set_cons_zero, List.set_cons_succ]; go_big_quiet_on)
    first | go_big_quiet_skip | (go_big_quiet_want; go_big_quiet_op; refine ⟨_, fun W hW => (by have := quietSame hW (l05Addr_any ad W); rw [c1] at this; exact this), ?_⟩; go_big_quiet_on)
    first | go_big_quiet_skip | (go_big_quiet_want; go_big_quiet_op; first | go_big_quiet_on | (refine ⟨_, fun _ _ => rfl, ?_⟩; go_big_quiet_on))
    iterate 2 (go_big_quiet_want; go_big_quiet_op; first | go_big_quiet_on | (refine ⟨_, fun _ _ => rfl, ?_⟩; go_big_quiet_on))
    iterate 4 (first | go_big_quiet_skip | (go_big_quiet_want; go_big_quiet_op; first | go_big_quiet_on | (refine ⟨_, fun _ _ => rfl, ?_⟩; go_big_quiet_on)))
    first | go_big_quiet_skip | (go_big_quiet_want; refine ⟨.int .i64 g, fun W hW => (quietLoadOne 2 (.tmp 34) rfl B (o + k * 10 + 9) rfl (.int .i64 g) ((hW.cell (p := ⟨B, o + k * 10 + 9, none⟩) lB).trans HCg.out) _ Tryz.underlying2 rfl), ?_⟩; simp only [Act.put, List.setIfInBounds_toArray, List.set_cons_zero, List.set_cons_succ]; go_big_quiet_on)
    first | go_big_quiet_skip | (go_big_quiet_want; go_big_quiet_op; refine ⟨_, fun W hW => (by have := quietSame hW (l02Is_any g 0 600 W); rw [c2] at this; exact this), ?_⟩; go_big_quiet_on)
    first | go_big_quiet_skip | (go_big_quiet_want; go_big_quiet_op; first | go_big_quiet_on | (refine ⟨_, fun _ _ => rfl, ?_⟩; go_big_quiet_on))
    iterate 2 (go_big_quiet_want; go_big_quiet_op; first | go_big_quiet_on | (refine ⟨_, fun _ _ => rfl, ?_⟩; go_big_quiet_on))
    iterate 8 (first | go_big_quiet_skip | (go_big_quiet_want; go_big_quiet_op; first | go_big_quiet_on | (refine ⟨_, fun _ _ => rfl, ?_⟩; go_big_quiet_on)))
    first | go_big_quiet_skip | (go_big_quiet_want; refine ⟨.agg #[.int .i64 m0, .int .i64 m1, .int .i64 m2, .int .i64 m3, .int .i64 m4, .int .i64 m5, .int .i64 m6, .bool m7], fun W hW => (quietLoadCells 38 (.tmp 47) rfl B (o + q * 10) rfl [.int .i64 m0, .int .i64 m1, .int .i64 m2, .int .i64 m3, .int .i64 m4, .int .i64 m5, .int .i64 m6, .bool m7] (fun j v hv => (hW.cell (p := ⟨B, o + q * 10 + j, none⟩) lB).trans (HCm.out j v hv)) _ Tryz.underlying38 rfl (by kernel_rfl)), ?_⟩; simp only [Act.put, List.setIfInBounds_toArray, List.set_cons_zero, List.set_cons_succ]; go_big_quiet_on)
    iterate 4 (first | go_big_quiet_skip | (go_big_quiet_want; go_big_quiet_op; first | go_big_quiet_on | (refine ⟨_, fun _ _ => rfl, ?_⟩; go_big_quiet_on)))
    first | go_big_quiet_skip | (go_big_quiet_want; refine ⟨.agg #[.int .i64 n0, .int .i64 n1, .int .i64 n2, .int .i64 n3, .int .i64 n4, .int .i64 n5, .int .i64 n6, .bool n7], fun W hW => (quietLoadCells 38 (.tmp 52) rfl B (o + k * 10) rfl [.int .i64 n0, .int .i64 n1, .int .i64 n2, .int .i64 n3, .int .i64 n4, .int .i64 n5, .int .i64 n6, .bool n7] (fun j v hv => (hW.cell (p := ⟨B, o + k * 10 + j, none⟩) lB).trans (HCn.out j v hv)) _ Tryz.underlying38 rfl (by kernel_rfl)), ?_⟩; simp only [Act.put, List.setIfInBounds_toArray, List.set_cons_zero, List.set_cons_succ]; go_big_quiet_on)
    first | go_big_quiet_skip | (go_big_quiet_want; go_big_quiet_op; refine ⟨_, fun W hW => quietCall hW (HLs W).out, ?_⟩; go_big_quiet_on)
    iterate 2 (first | go_big_quiet_skip | (go_big_quiet_want; go_big_quiet_op; first | go_big_quiet_on | (refine ⟨_, fun _ _ => rfl, ?_⟩; go_big_quiet_on)))
    go_big_quiet_want; go_big_quiet_op; first | go_big_quiet_on | (refine ⟨_, fun _ _ => rfl, ?_⟩; go_big_quiet_on)
    refine wpQuiet_nil ?_
    intro wx hx
    go_wp2_with fail
    go_ret
    exact ⟨by rw [hv.out]; rfl, hb.trans (hx.mono hb.size)⟩
   by_cases m0 : k = 0
   ·have e0 : decide ((0 : Int) < (k : Int)) = false := decide_eq_false (by omega)
    have e0n : decide (0 < k) = false := decide_eq_false (by omega)
    have HE2 := Lib.hid (show dvsAt l k = allR (fun t => !((dvAt l t).ad == ad)) k by rw [HE.out, c0, c1, c2, decide_eq_true m0]; simp)
    clear m0
    refine wp_region_quiet (C := fun W => Below wr.heap.size wr W) (by kernel_rfl) (by kernel_rfl) (Below.refl _ _).drew ?_
    dsimp only
    try simp only [Act.put, List.setIfInBounds_toArray, List.set_cons_zero, List.set_cons_succ]
    iterate 4 (go_big_quiet_want; go_big_quiet_op; first | go_big_quiet_on | (refine ⟨_, fun _ _ => rfl, ?_⟩; go_big_quiet_on))
    go_big_quiet_want; refine ⟨.agg #[.int .i64 n0, .int .i64 n1, .int .i64 n2, .int .i64 n3, .int .i64 n4, .int .i64 n5, .int .i64 n6, .bool n7], fun W hW => (quietLoadCells 38 (.tmp 17) rfl B (o + k * 10) rfl [.int .i64 n0, .int .i64 n1, .int .i64 n2, .int .i64 n3, .int .i64 n4, .int .i64 n5, .int .i64 n6, .bool n7] (fun j v hv => (hW.cell (p := ⟨B, o + k * 10 + j, none⟩) lB).trans (HCn.out j v hv)) _ Tryz.underlying38 rfl (by kernel_rfl)), ?_⟩; simp only [Act.put, List.setIfInBounds_toArray, List.set_cons_zero, List.set_cons_succ]; go_big_quiet_on
    go_big_quiet_want; go_big_quiet_op; refine ⟨_, fun W hW => quietCall hW (HNk W).out, ?_⟩; go_big_quiet_on
    iterate 2 (go_big_quiet_want; go_big_quiet_op; first | go_big_quiet_on | (refine ⟨_, fun _ _ => rfl, ?_⟩; go_big_quiet_on))
    iterate 4 (first | go_big_quiet_skip | (go_big_quiet_want; go_big_quiet_op; first | go_big_quiet_on | (refine ⟨_, fun _ _ => rfl, ?_⟩; go_big_quiet_on)))
    first | go_big_quiet_skip | (go_big_quiet_want; refine ⟨.int .i64 ad, fun W hW => (quietLoadOne 2 (.tmp 25) rfl B (o + k * 10 + 8) rfl (.int .i64 ad) ((hW.cell (p := ⟨B, o + k * 10 + 8, none⟩) lB).trans HCa.out) _ Tryz.underlying2 rfl), ?_⟩; simp only [Act.put, List.setIfInBounds_toArray, List.set_cons_zero, List.set_cons_succ]; go_big_quiet_on)
    first | go_big_quiet_skip | (go_big_quiet_want; go_big_quiet_op; refine ⟨_, fun W hW => (by have := quietSame hW (l05Addr_any ad W); rw [c1] at this; exact this), ?_⟩; go_big_quiet_on)
    first | go_big_quiet_skip | (go_big_quiet_want; go_big_quiet_op; first | go_big_quiet_on | (refine ⟨_, fun _ _ => rfl, ?_⟩; go_big_quiet_on))
    iterate 2 (go_big_quiet_want; go_big_quiet_op; first | go_big_quiet_on | (refine ⟨_, fun _ _ => rfl, ?_⟩; go_big_quiet_on))
    iterate 4 (first | go_big_quiet_skip | (go_big_quiet_want; go_big_quiet_op; first | go_big_quiet_on | (refine ⟨_, fun _ _ => rfl, ?_⟩; go_big_quiet_on)))
    first | go_big_quiet_skip | (go_big_quiet_want; refine ⟨.int .i64 g, fun W hW => (quietLoadOne 2 (.tmp 34) rfl B (o + k * 10 + 9) rfl (.int .i64 g) ((hW.cell (p := ⟨B, o + k * 10 + 9, none⟩) lB).trans HCg.out) _ Tryz.underlying2 rfl), ?_⟩; simp only [Act.put, List.setIfInBounds_toArray, List.set_cons_zero, List.set_cons_succ]; go_big_quiet_on)
    first | go_big_quiet_skip | (go_big_quiet_want; go_big_quiet_op; refine ⟨_, fun W hW => (by have := quietSame hW (l02Is_any g 0 600 W); rw [c2] at this; exact this), ?_⟩; go_big_quiet_on)
    first | go_big_quiet_skip | (go_big_quiet_want; go_big_quiet_op; first | go_big_quiet_on | (refine ⟨_, fun _ _ => rfl, ?_⟩; go_big_quiet_on))
    iterate 2 (go_big_quiet_want; go_big_quiet_op; first | go_big_quiet_on | (refine ⟨_, fun _ _ => rfl, ?_⟩; go_big_quiet_on))
    iterate 8 (first | go_big_quiet_skip | (go_big_quiet_want; go_big_quiet_op; first | go_big_quiet_on | (refine ⟨_, fun _ _ => rfl, ?_⟩; go_big_quiet_on)))
    first | go_big_quiet_skip | (go_big_quiet_want; refine ⟨.agg #[.int .i64 m0, .int .i64 m1, .int .i64 m2, .int .i64 m3, .int .i64 m4, .int .i64 m5, .int .i64 m6, .bool m7], fun W hW => (quietLoadCells 38 (.tmp 47) rfl B (o + q * 10) rfl [.int .i64 m0, .int .i64 m1, .int .i64 m2, .int .i64 m3, .int .i64 m4, .int .i64 m5, .int .i64 m6, .bool m7] (fun j v hv => (hW.cell (p := ⟨B, o + q * 10 + j, none⟩) lB).trans (HCm.out j v hv)) _ Tryz.underlying38 rfl (by kernel_rfl)), ?_⟩; simp only [Act.put, List.setIfInBounds_toArray, List.set_cons_zero, List.set_cons_succ]; go_big_quiet_on)
    iterate 4 (first | go_big_quiet_skip | (go_big_quiet_want; go_big_quiet_op; first | go_big_quiet_on | (refine ⟨_, fun _ _ => rfl, ?_⟩; go_big_quiet_on)))
    first | go_big_quiet_skip | (go_big_quiet_want; refine ⟨.agg #[.int .i64 n0, .int .i64 n1, .int .i64 n2, .int .i64 n3, .int .i64 n4, .int .i64 n5, .int .i64 n6, .bool n7], fun W hW => (quietLoadCells 38 (.tmp 52) rfl B (o + k * 10) rfl [.int .i64 n0, .int .i64 n1, .int .i64 n2, .int .i64 n3, .int .i64 n4, .int .i64 n5, .int .i64 n6, .bool n7] (fun j v hv => (hW.cell (p := ⟨B, o + k * 10 + j, none⟩) lB).trans (HCn.out j v hv)) _ Tryz.underlying38 rfl (by kernel_rfl)), ?_⟩; simp only [Act.put, List.setIfInBounds_toArray, List.set_cons_zero, List.set_cons_succ]; go_big_quiet_on)
    first | go_big_quiet_skip | (go_big_quiet_want; go_big_quiet_op; refine ⟨_, fun W hW => quietCall hW (HLs W).out, ?_⟩; go_big_quiet_on)
    iterate 2 (first | go_big_quiet_skip | (go_big_quiet_want; go_big_quiet_op; first | go_big_quiet_on | (refine ⟨_, fun _ _ => rfl, ?_⟩; go_big_quiet_on)))
    go_big_quiet_want; go_big_quiet_op; first | go_big_quiet_on | (refine ⟨_, fun _ _ => rfl, ?_⟩; go_big_quiet_on)
    refine wpQuiet_nil ?_
    intro wx hx
    go_wp2_with fail
    have HB2 := Lib.hid (hb.trans (hx.mono hb.size))
    have HCk := Lib.hid (show wr.cell? ⟨B, o + k * 10 + 8, none⟩ = some (.int .i64 ad) from HCa.out)
    have HX2 := Lib.hid hx
    clear hx
    go_loopw [4] (fun i wz => ∃ m : Nat, i = .int .i64 (m : Int) ∧ m ≤ k ∧ (∀ t, t < m → (!((dvAt l t).ad == ad)) = true) ∧ Below wx.heap.size wx wz) (fun i _ => k - (intOf i).toNat)
    case atStart => exact ⟨0, rfl, by omega, fun j hj => absurd hj (by omega), Below.refl _ _⟩
    case round =>
     obtain ⟨m, rfl, hm, hall, hz⟩ := hrel
     have HM := Lib.hid hall
     clear hall
     rename World => wz
     by_cases hmk : m < k
     ·have hj1 : (0 : Int) ≤ (m : Int) := by omega
      have hj2 : (m : Int) < (N : Int) := by omega
      have hj3 : (m : Int) < (k : Int) := by omega
      have hz2 := HB2.out.trans (hz.mono HB2.out.size)
      have lz : B < wz.heap.size := Nat.lt_of_lt_of_le hlt hz2.size
      have HD := Lib.hid (show wz.cell? ⟨B, o + m * 10 + 8, none⟩ = some (.int .i64 (dvAt l m).ad) from (hz2.cell (p := ⟨B, _, none⟩) hlt).trans (HCw.out m _ (dvAt_some (by have := HN.out; omega)) 8 _ rfl))
      have HDk := Lib.hid (show wz.cell? ⟨B, o + k * 10 + 8, none⟩ = some (.int .i64 ad) from ((HX2.out.trans (hz.mono HX2.out.size)).cell (p := ⟨B, _, none⟩) lB).trans HCk.out)
      have HP := Lib.hid (show (dvAt l m).ad = (dvAt l m).ad from rfl)
      go_wp2_with fail
      by_cases had : (dvAt l m).ad = ad
      ·have hv := Lib.hid (HNo.out (by rw [HE2.out]; exact allR_no hmk (by simp [had])))
       have hab : ((dvAt l m).ad == ad) = true := by simp [had]
       clear had HP
       generalize (dvAt l m).ad = pa at HD hab
       refine wp_region_quiet (C := fun W => Below wz.heap.size wz W) (by kernel_rfl) (by kernel_rfl) (Below.refl _ _).drew ?_
       dsimp only
       try simp only [Act.put, List.setIfInBounds_toArray, List.set_cons_zero, List.set_cons_succ]
       iterate 4 (go_big_quiet_want; go_big_quiet_op; first | go_big_quiet_on | (refine ⟨_, fun _ _ => rfl, ?_⟩; go_big_quiet_on))
       go_big_quiet_want; refine ⟨.int .i64 pa, fun W hW => (quietLoadOne 2 (.tmp 66) rfl B (o + m * 10 + 8) rfl (.int .i64 pa) ((hW.cell (p := ⟨B, o + m * 10 + 8, none⟩) lz).trans HD.out) _ Tryz.underlying2 rfl), ?_⟩; simp only [Act.put, List.setIfInBounds_toArray, List.set_cons_zero, List.set_cons_succ]; go_big_quiet_on
       iterate 4 (go_big_quiet_want; go_big_quiet_op; first | go_big_quiet_on | (refine ⟨_, fun _ _ => rfl, ?_⟩; go_big_quiet_on))
       go_big_quiet_want; refine ⟨.int .i64 ad, fun W hW => (quietLoadOne 2 (.tmp 71) rfl B (o + k * 10 + 8) rfl (.int .i64 ad) ((hW.cell (p := ⟨B, o + k * 10 + 8, none⟩) lz).trans HDk.out) _ Tryz.underlying2 rfl), ?_⟩; simp only [Act.put, List.setIfInBounds_toArray, List.set_cons_zero, List.set_cons_succ]; go_big_quiet_on
       go_big_quiet_want; go_big_quiet_op; first | go_big_quiet_on | (refine ⟨_, fun _ _ => rfl, ?_⟩; go_big_quiet_on)
       refine wpQuiet_nil ?_
       intro X hX
       go_wp2_with fail
       go_ret
       exact ⟨by rw [hv.out]; rfl, hz2.trans (hX.mono hz2.size)⟩
      ·have HT := Lib.hid (show (!((dvAt l m).ad == ad)) = true by simp [had])
       have hab : ((dvAt l m).ad == ad) = false := by simp [had]
       clear had HP
       generalize (dvAt l m).ad = pa at HD hab
       refine wp_region_quiet (C := fun W => Below wz.heap.size wz W) (by kernel_rfl) (by kernel_rfl) (Below.refl _ _).drew ?_
       dsimp only
       try simp only [Act.put, List.setIfInBounds_toArray, List.set_cons_zero, List.set_cons_succ]
       iterate 4 (go_big_quiet_want; go_big_quiet_op; first | go_big_quiet_on | (refine ⟨_, fun _ _ => rfl, ?_⟩; go_big_quiet_on))
       go_big_quiet_want; refine ⟨.int .i64 pa, fun W hW => (quietLoadOne 2 (.tmp 66) rfl B (o + m * 10 + 8) rfl (.int .i64 pa) ((hW.cell (p := ⟨B, o + m * 10 + 8, none⟩) lz).trans HD.out) _ Tryz.underlying2 rfl), ?_⟩; simp only [Act.put, List.setIfInBounds_toArray, List.set_cons_zero, List.set_cons_succ]; go_big_quiet_on
       iterate 4 (go_big_quiet_want; go_big_quiet_op; first | go_big_quiet_on | (refine ⟨_, fun _ _ => rfl, ?_⟩; go_big_quiet_on))
       go_big_quiet_want; refine ⟨.int .i64 ad, fun W hW => (quietLoadOne 2 (.tmp 71) rfl B (o + k * 10 + 8) rfl (.int .i64 ad) ((hW.cell (p := ⟨B, o + k * 10 + 8, none⟩) lz).trans HDk.out) _ Tryz.underlying2 rfl), ?_⟩; simp only [Act.put, List.setIfInBounds_toArray, List.set_cons_zero, List.set_cons_succ]; go_big_quiet_on
       go_big_quiet_want; go_big_quiet_op; first | go_big_quiet_on | (refine ⟨_, fun _ _ => rfl, ?_⟩; go_big_quiet_on)
       refine wpQuiet_nil ?_
       intro X hX
       go_wp2_with fail
       go_roundw
       case rel => exact ⟨m + 1, by go_num, by omega, fun j hj => (Nat.lt_or_ge j m).elim (HM.out j) (fun g => (show j = m by omega) ▸ HT.out), hz.trans (hX.mono hz.size)⟩
       case measure => simp [intOf]; omega
     ·have hj3 : ¬ (m : Int) < (k : Int) := by omega
      have hmf : decide (m < k) = false := decide_eq_false (by omega)
      have hmf2 : decide ((m : Int) < (k : Int)) = false := decide_eq_false (by omega)
      have HT := Lib.hid (show dvsAt l k = true by rw [HE2.out]; exact allR_yes (fun t ht => HM.out t (by omega)))
      have hz2 := HB2.out.trans (hz.mono HB2.out.size)
      go_wp2_with fail
      go_roundw
      case rel => exact ⟨k + 1, by go_num, by omega, fun j hj => (Nat.lt_or_ge j k).elim (HA.out j) (fun g => (show j = k by omega) ▸ HT.out), hz2⟩
      case measure => simp [intOf]; omega
   ·obtain ⟨q, hq⟩ : ∃ q, k = q + 1 := ⟨k - 1, by omega⟩
    have e0 : decide ((0 : Int) < (k : Int)) = true := decide_eq_true (by omega)
    have e0n : decide (0 < k) = true := decide_eq_true (by omega)
    have p0 : 0 < k := by omega
    have e1 : IntKind.i64.wrap ((k : Int) - 1) = (q : Int) := by rw [IntWalk.i64_in _ (by omega)]; omega
    have hm1 : (0 : Int) ≤ (q : Int) := by omega
    have hm2 : (q : Int) < (N : Int) := by omega
    have HPo2 := HPo.out (by omega)
    rw [show k - 1 = q by omega, decide_eq_false m0] at HE
    rw [show k - 1 = q by omega] at HPo2
    have HCp := Lib.hid (fun j v hv => (hb.cell (p := ⟨B, _, none⟩) hlt).trans (HCw.out q _ (dvAt_some (by omega)) j v hv))
    have HLs := fun W => Lib.hid (l04Less_any (dvAt l q).n ⟨n0, n1, n2, n3, n4, n5, n6, n7⟩ W HPo2 c0)
    have HLB := Lib.hid (show nmLessB (dvAt l q).n ⟨n0, n1, n2, n3, n4, n5, n6, n7⟩ = decide (nmN (dvAt l q).n < nmN ⟨n0, n1, n2, n3, n4, n5, n6, n7⟩) by unfold nmLessB; rw [HPo2, c0]; rfl)
    rw [HLB.out] at HE
    clear HLB HPo2 HPo hq m0
    generalize dvAt l q = z at HCp HLs HE
    obtain ⟨⟨m0, m1, m2, m3, m4, m5, m6, m7⟩, yad, yg⟩ := z
    unfold dvL at HCp
    unfold nmV at HLs
    dsimp only at HCp HLs HE
    have HCm := Lib.hid (show ∀ (j : Nat) v, ([.int .i64 m0, .int .i64 m1, .int .i64 m2, .int .i64 m3, .int .i64 m4, .int .i64 m5, .int .i64 m6, .bool m7] : List Value)[j]? = some v → wr.cell? ⟨B, o + q * 10 + j, none⟩ = some v from fun j v hv => HCp.out j v (dv_nm m0 m1 m2 m3 m4 m5 m6 m7 yad yg j v hv))
    clear HCp
    generalize decide (nmN ⟨m0, m1, m2, m3, m4, m5, m6, m7⟩ < nmN ⟨n0, n1, n2, n3, n4, n5, n6, n7⟩) = Ls at HLs HE
    rcases Ls with _ | _
    ·have hv := Lib.hid (HNo.out (by rw [HE.out, c0, c1, c2]; rfl))
     refine wp_region_quiet (C := fun W => Below wr.heap.size wr W) (by kernel_rfl) (by kernel_rfl) (Below.refl _ _).drew ?_
     dsimp only
     try simp only [Act.put, List.setIfInBounds_toArray, List.set_cons_zero, List.set_cons_succ]
     iterate 4 (go_big_quiet_want; go_big_quiet_op; first | go_big_quiet_on | (refine ⟨_, fun _ _ => rfl, ?_⟩; go_big_quiet_on))
     go_big_quiet_want; refine ⟨.agg #[.int .i64 n0, .int .i64 n1, .int .i64 n2, .int .i64 n3, .int .i64 n4, .int .i64 n5, .int .i64 n6, .bool n7], fun W hW => (quietLoadCells 38 (.tmp 17) rfl B (o + k * 10) rfl [.int .i64 n0, .int .i64 n1, .int .i64 n2, .int .i64 n3, .int .i64 n4, .int .i64 n5, .int .i64 n6, .bool n7] (fun j v hv => (hW.cell (p := ⟨B, o + k * 10 + j, none⟩) lB).trans (HCn.out j v hv)) _ Tryz.underlying38 rfl (by kernel_rfl)), ?_⟩; simp only [Act.put, List.setIfInBounds_toArray, List.set_cons_zero, List.set_cons_succ]; go_big_quiet_on
     go_big_quiet_want; go_big_quiet_op; refine ⟨_, fun W hW => quietCall hW (HNk W).out, ?_⟩; go_big_quiet_on
     iterate 2 (go_big_quiet_want; go_big_quiet_op; first | go_big_quiet_on | (refine ⟨_, fun _ _ => rfl, ?_⟩; go_big_quiet_on))
     iterate 4 (first | go_big_quiet_skip | (go_big_quiet_want; go_big_quiet_op; first | go_big_quiet_on | (refine ⟨_, fun _ _ => rfl, ?_⟩; go_big_quiet_on)))
     first | go_big_quiet_skip | (go_big_quiet_want; refine ⟨.int .i64 ad, fun W hW => (quietLoadOne 2 (.tmp 25) rfl B (o + k * 10 + 8) rfl (.int .i64 ad) ((hW.cell (p := ⟨B, o + k * 10 + 8, none⟩) lB).trans HCa.out) _ Tryz.underlying2 rfl), ?_⟩; simp only [Act.put, List.setIfInBounds_toArray, List.set_cons_zero, List.set_cons_succ]; go_big_quiet_on)
     first | go_big_quiet_skip | (go_big_quiet_want; go_big_quiet_op; refine ⟨_, fun W hW => (by have := quietSame hW (l05Addr_any ad W); rw [c1] at this; exact this), ?_⟩; go_big_quiet_on)
     first | go_big_quiet_skip | (go_big_quiet_want; go_big_quiet_op; first | go_big_quiet_on | (refine ⟨_, fun _ _ => rfl, ?_⟩; go_big_quiet_on))
     iterate 2 (go_big_quiet_want; go_big_quiet_op; first | go_big_quiet_on | (refine ⟨_, fun _ _ => rfl, ?_⟩; go_big_quiet_on))
     iterate 4 (first | go_big_quiet_skip | (go_big_quiet_want; go_big_quiet_op; first | go_big_quiet_on | (refine ⟨_, fun _ _ => rfl, ?_⟩; go_big_quiet_on)))
     first | go_big_quiet_skip | (go_big_quiet_want; refine ⟨.int .i64 g, fun W hW => (quietLoadOne 2 (.tmp 34) rfl B (o + k * 10 + 9) rfl (.int .i64 g) ((hW.cell (p := ⟨B, o + k * 10 + 9, none⟩) lB).trans HCg.out) _ Tryz.underlying2 rfl), ?_⟩; simp only [Act.put, List.setIfInBounds_toArray, List.set_cons_zero, List.set_cons_succ]; go_big_quiet_on)
     first | go_big_quiet_skip | (go_big_quiet_want; go_big_quiet_op; refine ⟨_, fun W hW => (by have := quietSame hW (l02Is_any g 0 600 W); rw [c2] at this; exact this), ?_⟩; go_big_quiet_on)
     first | go_big_quiet_skip | (go_big_quiet_want; go_big_quiet_op; first | go_big_quiet_on | (refine ⟨_, fun _ _ => rfl, ?_⟩; go_big_quiet_on))
     iterate 2 (go_big_quiet_want; go_big_quiet_op; first | go_big_quiet_on | (refine ⟨_, fun _ _ => rfl, ?_⟩; go_big_quiet_on))
     iterate 8 (first | go_big_quiet_skip | (go_big_quiet_want; go_big_quiet_op; first | go_big_quiet_on | (refine ⟨_, fun _ _ => rfl, ?_⟩; go_big_quiet_on)))
     first | go_big_quiet_skip | (go_big_quiet_want; refine ⟨.agg #[.int .i64 m0, .int .i64 m1, .int .i64 m2, .int .i64 m3, .int .i64 m4, .int .i64 m5, .int .i64 m6, .bool m7], fun W hW => (quietLoadCells 38 (.tmp 47) rfl B (o + q * 10) rfl [.int .i64 m0, .int .i64 m1, .int .i64 m2, .int .i64 m3, .int .i64 m4, .int .i64 m5, .int .i64 m6, .bool m7] (fun j v hv => (hW.cell (p := ⟨B, o + q * 10 + j, none⟩) lB).trans (HCm.out j v hv)) _ Tryz.underlying38 rfl (by kernel_rfl)), ?_⟩; simp only [Act.put, List.setIfInBounds_toArray, List.set_cons_zero, List.set_cons_succ]; go_big_quiet_on)
     iterate 4 (first | go_big_quiet_skip | (go_big_quiet_want; go_big_quiet_op; first | go_big_quiet_on | (refine ⟨_, fun _ _ => rfl, ?_⟩; go_big_quiet_on)))
     first | go_big_quiet_skip | (go_big_quiet_want; refine ⟨.agg #[.int .i64 n0, .int .i64 n1, .int .i64 n2, .int .i64 n3, .int .i64 n4, .int .i64 n5, .int .i64 n6, .bool n7], fun W hW => (quietLoadCells 38 (.tmp 52) rfl B (o + k * 10) rfl [.int .i64 n0, .int .i64 n1, .int .i64 n2, .int .i64 n3, .int .i64 n4, .int .i64 n5, .int .i64 n6, .bool n7] (fun j v hv => (hW.cell (p := ⟨B, o + k * 10 + j, none⟩) lB).trans (HCn.out j v hv)) _ Tryz.underlying38 rfl (by kernel_rfl)), ?_⟩; simp only [Act.put, List.setIfInBounds_toArray, List.set_cons_zero, List.set_cons_succ]; go_big_quiet_on)
     first | go_big_quiet_skip | (go_big_quiet_want; go_big_quiet_op; refine ⟨_, fun W hW => quietCall hW (HLs W).out, ?_⟩; go_big_quiet_on)
     iterate 2 (first | go_big_quiet_skip | (go_big_quiet_want; go_big_quiet_op; first | go_big_quiet_on | (refine ⟨_, fun _ _ => rfl, ?_⟩; go_big_quiet_on)))
     go_big_quiet_want; go_big_quiet_op; first | go_big_quiet_on | (refine ⟨_, fun _ _ => rfl, ?_⟩; go_big_quiet_on)
     refine wpQuiet_nil ?_
     intro wx hx
     go_wp2_with fail
     go_ret
     exact ⟨by rw [hv.out]; rfl, hb.trans (hx.mono hb.size)⟩
    ·have HE2 := Lib.hid (show dvsAt l k = allR (fun t => !((dvAt l t).ad == ad)) k by rw [HE.out, c0, c1, c2]; simp)
     refine wp_region_quiet (C := fun W => Below wr.heap.size wr W) (by kernel_rfl) (by kernel_rfl) (Below.refl _ _).drew ?_
     dsimp only
     try simp only [Act.put, List.setIfInBounds_toArray, List.set_cons_zero, List.set_cons_succ]
     iterate 4 (go_big_quiet_want; go_big_quiet_op; first | go_big_quiet_on | (refine ⟨_, fun _ _ => rfl, ?_⟩; go_big_quiet_on))
     go_big_quiet_want; refine ⟨.agg #[.int .i64 n0, .int .i64 n1, .int .i64 n2, .int .i64 n3, .int .i64 n4, .int .i64 n5, .int .i64 n6, .bool n7], fun W hW => (quietLoadCells 38 (.tmp 17) rfl B (o + k * 10) rfl [.int .i64 n0, .int .i64 n1, .int .i64 n2, .int .i64 n3, .int .i64 n4, .int .i64 n5, .int .i64 n6, .bool n7] (fun j v hv => (hW.cell (p := ⟨B, o + k * 10 + j, none⟩) lB).trans (HCn.out j v hv)) _ Tryz.underlying38 rfl (by kernel_rfl)), ?_⟩; simp only [Act.put, List.setIfInBounds_toArray, List.set_cons_zero, List.set_cons_succ]; go_big_quiet_on
     go_big_quiet_want; go_big_quiet_op; refine ⟨_, fun W hW => quietCall hW (HNk W).out, ?_⟩; go_big_quiet_on
     iterate 2 (go_big_quiet_want; go_big_quiet_op; first | go_big_quiet_on | (refine ⟨_, fun _ _ => rfl, ?_⟩; go_big_quiet_on))
     iterate 4 (first | go_big_quiet_skip | (go_big_quiet_want; go_big_quiet_op; first | go_big_quiet_on | (refine ⟨_, fun _ _ => rfl, ?_⟩; go_big_quiet_on)))
     first | go_big_quiet_skip | (go_big_quiet_want; refine ⟨.int .i64 ad, fun W hW => (quietLoadOne 2 (.tmp 25) rfl B (o + k * 10 + 8) rfl (.int .i64 ad) ((hW.cell (p := ⟨B, o + k * 10 + 8, none⟩) lB).trans HCa.out) _ Tryz.underlying2 rfl), ?_⟩; simp only [Act.put, List.setIfInBounds_toArray, List.set_cons_zero, List.set_cons_succ]; go_big_quiet_on)
     first | go_big_quiet_skip | (go_big_quiet_want; go_big_quiet_op; refine ⟨_, fun W hW => (by have := quietSame hW (l05Addr_any ad W); rw [c1] at this; exact this), ?_⟩; go_big_quiet_on)
     first | go_big_quiet_skip | (go_big_quiet_want; go_big_quiet_op; first | go_big_quiet_on | (refine ⟨_, fun _ _ => rfl, ?_⟩; go_big_quiet_on))
     iterate 2 (go_big_quiet_want; go_big_quiet_op; first | go_big_quiet_on | (refine ⟨_, fun _ _ => rfl, ?_⟩; go_big_quiet_on))
     iterate 4 (first | go_big_quiet_skip | (go_big_quiet_want; go_big_quiet_op; first | go_big_quiet_on | (refine ⟨_, fun _ _ => rfl, ?_⟩; go_big_quiet_on)))
     first | go_big_quiet_skip | (go_big_quiet_want; refine ⟨.int .i64 g, fun W hW => (quietLoadOne 2 (.tmp 34) rfl B (o + k * 10 + 9) rfl (.int .i64 g) ((hW.cell (p := ⟨B, o + k * 10 + 9, none⟩) lB).trans HCg.out) _ Tryz.underlying2 rfl), ?_⟩; simp only [Act.put, List.setIfInBounds_toArray, List.set_cons_zero, List.set_cons_succ]; go_big_quiet_on)
     first | go_big_quiet_skip | (go_big_quiet_want; go_big_quiet_op; refine ⟨_, fun W hW => (by have := quietSame hW (l02Is_any g 0 600 W); rw [c2] at this; exact this), ?_⟩; go_big_quiet_on)
     first | go_big_quiet_skip | (go_big_quiet_want; go_big_quiet_op; first | go_big_quiet_on | (refine ⟨_, fun _ _ => rfl, ?_⟩; go_big_quiet_on))
     iterate 2 (go_big_quiet_want; go_big_quiet_op; first | go_big_quiet_on | (refine ⟨_, fun _ _ => rfl, ?_⟩; go_big_quiet_on))
     iterate 8 (first | go_big_quiet_skip | (go_big_quiet_want; go_big_quiet_op; first | go_big_quiet_on | (refine ⟨_, fun _ _ => rfl, ?_⟩; go_big_quiet_on)))
     first | go_big_quiet_skip | (go_big_quiet_want; refine ⟨.agg #[.int .i64 m0, .int .i64 m1, .int .i64 m2, .int .i64 m3, .int .i64 m4, .int .i64 m5, .int .i64 m6, .bool m7], fun W hW => (quietLoadCells 38 (.tmp 47) rfl B (o + q * 10) rfl [.int .i64 m0, .int .i64 m1, .int .i64 m2, .int .i64 m3, .int .i64 m4, .int .i64 m5, .int .i64 m6, .bool m7] (fun j v hv => (hW.cell (p := ⟨B, o + q * 10 + j, none⟩) lB).trans (HCm.out j v hv)) _ Tryz.underlying38 rfl (by kernel_rfl)), ?_⟩; simp only [Act.put, List.setIfInBounds_toArray, List.set_cons_zero, List.set_cons_succ]; go_big_quiet_on)
     iterate 4 (first | go_big_quiet_skip | (go_big_quiet_want; go_big_quiet_op; first | go_big_quiet_on | (refine ⟨_, fun _ _ => rfl, ?_⟩; go_big_quiet_on)))
     first | go_big_quiet_skip | (go_big_quiet_want; refine ⟨.agg #[.int .i64 n0, .int .i64 n1, .int .i64 n2, .int .i64 n3, .int .i64 n4, .int .i64 n5, .int .i64 n6, .bool n7], fun W hW => (quietLoadCells 38 (.tmp 52) rfl B (o + k * 10) rfl [.int .i64 n0, .int .i64 n1, .int .i64 n2, .int .i64 n3, .int .i64 n4, .int .i64 n5, .int .i64 n6, .bool n7] (fun j v hv => (hW.cell (p := ⟨B, o + k * 10 + j, none⟩) lB).trans (HCn.out j v hv)) _ Tryz.underlying38 rfl (by kernel_rfl)), ?_⟩; simp only [Act.put, List.setIfInBounds_toArray, List.set_cons_zero, List.set_cons_succ]; go_big_quiet_on)
     first | go_big_quiet_skip | (go_big_quiet_want; go_big_quiet_op; refine ⟨_, fun W hW => quietCall hW (HLs W).out, ?_⟩; go_big_quiet_on)
     iterate 2 (first | go_big_quiet_skip | (go_big_quiet_want; go_big_quiet_op; first | go_big_quiet_on | (refine ⟨_, fun _ _ => rfl, ?_⟩; go_big_quiet_on)))
     go_big_quiet_want; go_big_quiet_op; first | go_big_quiet_on | (refine ⟨_, fun _ _ => rfl, ?_⟩; go_big_quiet_on)
     refine wpQuiet_nil ?_
     intro wx hx
     go_wp2_with fail
     have HB2 := Lib.hid (hb.trans (hx.mono hb.size))
     have HCk := Lib.hid (show wr.cell? ⟨B, o + k * 10 + 8, none⟩ = some (.int .i64 ad) from HCa.out)
     have HX2 := Lib.hid hx
     clear hx
     go_loopw [4] (fun i wz => ∃ m : Nat, i = .int .i64 (m : Int) ∧ m ≤ k ∧ (∀ t, t < m → (!((dvAt l t).ad == ad)) = true) ∧ Below wx.heap.size wx wz) (fun i _ => k - (intOf i).toNat)
     case atStart => exact ⟨0, rfl, by omega, fun j hj => absurd hj (by omega), Below.refl _ _⟩
     case round =>
      obtain ⟨m, rfl, hm, hall, hz⟩ := hrel
      have HM := Lib.hid hall
      clear hall
      rename World => wz
      by_cases hmk : m < k
      ·have hj1 : (0 : Int) ≤ (m : Int) := by omega
       have hj2 : (m : Int) < (N : Int) := by omega
       have hj3 : (m : Int) < (k : Int) := by omega
       have hz2 := HB2.out.trans (hz.mono HB2.out.size)
       have lz : B < wz.heap.size := Nat.lt_of_lt_of_le hlt hz2.size
       have HD := Lib.hid (show wz.cell? ⟨B, o + m * 10 + 8, none⟩ = some (.int .i64 (dvAt l m).ad) from (hz2.cell (p := ⟨B, _, none⟩) hlt).trans (HCw.out m _ (dvAt_some (by have := HN.out; omega)) 8 _ rfl))
       have HDk := Lib.hid (show wz.cell? ⟨B, o + k * 10 + 8, none⟩ = some (.int .i64 ad) from ((HX2.out.trans (hz.mono HX2.out.size)).cell (p := ⟨B, _, none⟩) lB).trans HCk.out)
       have HP := Lib.hid (show (dvAt l m).ad = (dvAt l m).ad from rfl)
       go_wp2_with fail
       by_cases had : (dvAt l m).ad = ad
       ·have hv := Lib.hid (HNo.out (by rw [HE2.out]; exact allR_no hmk (by simp [had])))
        have hab : ((dvAt l m).ad == ad) = true := by simp [had]
        clear had HP
        generalize (dvAt l m).ad = pa at HD hab
        refine wp_region_quiet (C := fun W => Below wz.heap.size wz W) (by kernel_rfl) (by kernel_rfl) (Below.refl _ _).drew ?_
        dsimp only
        try simp only [Act.put, List.setIfInBounds_toArray, List.set_cons_zero, List.set_cons_succ]
        iterate 4 (go_big_quiet_want; go_big_quiet_op; first | go_big_quiet_on | (refine ⟨_, fun _ _ => rfl, ?_⟩; go_big_quiet_on))
        go_big_quiet_want; refine ⟨.int .i64 pa, fun W hW => (quietLoadOne 2 (.tmp 66) rfl B (o + m * 10 + 8) rfl (.int .i64 pa) ((hW.cell (p := ⟨B, o + m * 10 + 8, none⟩) lz).trans HD.out) _ Tryz.underlying2 rfl), ?_⟩; simp only [Act.put, List.setIfInBounds_toArray, List.set_cons_zero, List.set_cons_succ]; go_big_quiet_on
        iterate 4 (go_big_quiet_want; go_big_quiet_op; first | go_big_quiet_on | (refine ⟨_, fun _ _ => rfl, ?_⟩; go_big_quiet_on))
        go_big_quiet_want; refine ⟨.int .i64 ad, fun W hW => (quietLoadOne 2 (.tmp 71) rfl B (o + k * 10 + 8) rfl (.int .i64 ad) ((hW.cell (p := ⟨B, o + k * 10 + 8, none⟩) lz).trans HDk.out) _ Tryz.underlying2 rfl), ?_⟩; simp only [Act.put, List.setIfInBounds_toArray, List.set_cons_zero, List.set_cons_succ]; go_big_quiet_on
        go_big_quiet_want; go_big_quiet_op; first | go_big_quiet_on | (refine ⟨_, fun _ _ => rfl, ?_⟩; go_big_quiet_on)
        refine wpQuiet_nil ?_
        intro X hX
        go_wp2_with fail
        go_ret
        exact ⟨by rw [hv.out]; rfl, hz2.trans (hX.mono hz2.size)⟩
       ·have HT := Lib.hid (show (!((dvAt l m).ad == ad)) = true by simp [had])
        have hab : ((dvAt l m).ad == ad) = false := by simp [had]
        clear had HP
        generalize (dvAt l m).ad = pa at HD hab
        refine wp_region_quiet (C := fun W => Below wz.heap.size wz W) (by kernel_rfl) (by kernel_rfl) (Below.refl _ _).drew ?_
        dsimp only
        try simp only [Act.put, List.setIfInBounds_toArray, List.set_cons_zero, List.set_cons_succ]
        iterate 4 (go_big_quiet_want; go_big_quiet_op; first | go_big_quiet_on | (refine ⟨_, fun _ _ => rfl, ?_⟩; go_big_quiet_on))
        go_big_quiet_want; refine ⟨.int .i64 pa, fun W hW => (quietLoadOne 2 (.tmp 66) rfl B (o + m * 10 + 8) rfl (.int .i64 pa) ((hW.cell (p := ⟨B, o + m * 10 + 8, none⟩) lz).trans HD.out) _ Tryz.underlying2 rfl), ?_⟩; simp only [Act.put, List.setIfInBounds_toArray, List.set_cons_zero, List.set_cons_succ]; go_big_quiet_on
        iterate 4 (go_big_quiet_want; go_big_quiet_op; first | go_big_quiet_on | (refine ⟨_, fun _ _ => rfl, ?_⟩; go_big_quiet_on))
        go_big_quiet_want; refine ⟨.int .i64 ad, fun W hW => (quietLoadOne 2 (.tmp 71) rfl B (o + k * 10 + 8) rfl (.int .i64 ad) ((hW.cell (p := ⟨B, o + k * 10 + 8, none⟩) lz).trans HDk.out) _ Tryz.underlying2 rfl), ?_⟩; simp only [Act.put, List.setIfInBounds_toArray, List.set_cons_zero, List.set_cons_succ]; go_big_quiet_on
        go_big_quiet_want; go_big_quiet_op; first | go_big_quiet_on | (refine ⟨_, fun _ _ => rfl, ?_⟩; go_big_quiet_on)
        refine wpQuiet_nil ?_
        intro X hX
        go_wp2_with fail
        go_roundw
        case rel => exact ⟨m + 1, by go_num, by omega, fun j hj => (Nat.lt_or_ge j m).elim (HM.out j) (fun g => (show j = m by omega) ▸ HT.out), hz.trans (hX.mono hz.size)⟩
        case measure => simp [intOf]; omega
      ·have hj3 : ¬ (m : Int) < (k : Int) := by omega
       have hmf : decide (m < k) = false := decide_eq_false (by omega)
       have hmf2 : decide ((m : Int) < (k : Int)) = false := decide_eq_false (by omega)
       have HT := Lib.hid (show dvsAt l k = true by rw [HE2.out]; exact allR_yes (fun t ht => HM.out t (by omega)))
       have hz2 := HB2.out.trans (hz.mono HB2.out.size)
       go_wp2_with fail
       go_roundw
       case rel => exact ⟨k + 1, by go_num, by omega, fun j hj => (Nat.lt_or_ge j k).elim (HA.out j) (fun g => (show j = k by omega) ▸ HT.out), hz2⟩
       case measure => simp [intOf]; omega
  ·have hv := Lib.hid (HVy.out (by have := HN.out; omega) (fun i hi => HA.out i (by have := HN.out; omega)))
   go_wp2_with fail
   go_ret
   exact ⟨by rw [hv.out]; rfl, hb⟩
end Go.Proofs.YtioldepgoodipaaGreat
namespace Go.Proofs.YtioldepgoodipaaGreat
open Go.RowKit
set_option linter.unusedVariables false

def ndB (x : Nd) : Bool := clB x.c && (qRightB x.q && (tabB x.t && (dvsB x.d && (decide (x.g.length ≤ 8) && (inB 0 7 x.s && allR (fun i => gtB (gtAt x.g i)) x.g.length)))))
def NdOk (x : Nd) : Prop := CansOk x.q ∧ SesOk x.t ∧ (∀ i, i < x.g.length → (gtAt x.g i).dt.size ≤ maxLen)
set_option maxRecDepth 100000 in
set_option maxHeartbeats 16000000 in
theorem implNodeRight_any (x : Nd) (a1 a2 a3 a4 a5 : Option Addr) (c1 c2 c3 c4 c5 : Nat) (w : World) (h : NdIn w a1 a2 a3 a4 a5 x) (hok : NdOk x) (hs : NdSmall x) (hc4 : x.d.length ≤ c4) :
  Calls Tryz.prog 65 #[ndV x a1 a2 a3 a4 a5 c1 c2 c3 c4 c5] w fun e w' => e = .returned (.bool (ndB x)) ∧ Below w.heap.size w w' := by
 have HSm := hs
 unfold NdSmall at hs
 unfold NdOk at hok
 have HB := Lib.hid (show ndB x = (clB x.c && (qRightB x.q && (tabB x.t && (dvsB x.d && (decide (x.g.length ≤ 8) && (inB 0 7 x.s && allR (fun i => gtB (gtAt x.g i)) x.g.length)))))) from rfl)
 generalize ndB x = RES at *
 obtain ⟨⟨⟨n0, n1, n2, n3, n4, n5, n6, n7⟩, ad, st, lf, tk⟩, q, t, d, g, sq⟩ := x
 obtain ⟨i1, i2, i3, i4, i5⟩ := h
 obtain ⟨s1, s2, ⟨s3, -⟩, s4, s5, -⟩ := hs
 obtain ⟨o1, o2, o3⟩ := hok
 unfold ndV
 dsimp only at *
 have HI1 := Lib.hid i1
 have HI2 := Lib.hid i2
 have HI3 := Lib.hid i3
 have HI4 := Lib.hid i4
 have HI5 := Lib.hid i5
 have HO := Lib.hid o3
 have HC1 := fun W h => Lib.hid (implClaimRight_any ⟨n0, n1, n2, n3, n4, n5, n6, n7⟩ ad st lf a1 c1 tk W h s1)
 have HC2 := fun W h => Lib.hid (implQueueRight_any a2 c2 q W h o1 s2)
 have HC3 := fun W h => Lib.hid (implTable_any a3 c3 t W h o2 (by unfold maxLen; omega))
 have HC4 := fun W h => Lib.hid (implDevicesRight_any a4 c4 d W h (by unfold maxLen; omega) hc4)
 unfold clV at HC1
 dsimp only at HC1
 clear i1 i2 i3 i4 i5 s1 s2 s3 s4 o1 o2 o3 HSm
 generalize clB ⟨⟨n0, n1, n2, n3, n4, n5, n6, n7⟩, ad, st, lf, tk⟩ = V1 at *
 generalize qRightB q = V2 at *
 generalize tabB t = V3 at *
 generalize dvsB d = V4 at *
 generalize eN1 : tk.length = N1 at *
 generalize eN2 : q.length = N2 at *
 generalize eN3 : t.length = N3 at *
 generalize eN4 : d.length = N4 at *
 obtain ⟨N5, eN5⟩ : ∃ N, g.length = N := ⟨_, rfl⟩
 have HN := Lib.hid eN5
 rw [eN5] at s5 HB ⊢
 clear eN1 eN2 eN3 eN4 eN5
 go_enter Tryz.func65, Tryz.ntmps65
 go_wp2_with (first
  | (refine wpList_box_h rfl 48 (.tmp 0) rfl #[.int .i64 n0, .int .i64 n1, .int .i64 n2, .int .i64 n3, .int .i64 n4, .int .i64 n5, .int .i64 n6, .bool n7, .int .i64 ad, .int .i64 st, .int .i64 lf, .slice a1 N1 c1, .slice a2 N2 c2, .slice a3 N3 c3, .slice a4 N4 c4, .slice a5 N5 c5, .int .i64 sq] rfl ?_; intro w1 R1 e1 g1 b1; have HL1 := Lib.hid (show Lg w w1 [(R1, (qE2 n0 n1 n2 n3 n4 n5 n6 n7 ad st lf a1 N1 c1 a2 N2 c2 a3 N3 c3 a4 N4 c4 a5 N5 c5 sq), 48)] [] from (Lg.first w).box e1 g1 b1); clear g1 b1 e1)
  | (refine wpList_load_at rfl 40 (.tmp 5) rfl (R1) 0 rfl 48 (qE2 n0 n1 n2 n3 n4 n5 n6 n7 ad st lf a1 N1 c1 a2 N2 c2 a3 N3 c3 a4 N4 c4 a5 N5 c5 sq) (0, 0) (HL1.out.get (.head _)) [.int .i64 n0, .int .i64 n1, .int .i64 n2, .int .i64 n3, .int .i64 n4, .int .i64 n5, .int .i64 n6, .bool n7, .int .i64 ad, .int .i64 st, .int .i64 lf, .slice a1 N1 c1] rfl _ Tryz.underlying40 rfl (by kernel_rfl) ?_))
 refine ((HC1 _ (HI1.out.kept HL1.out.below)).out).mono ?_
 rintro e w2 ⟨rfl, h⟩
 have HL2 := Lib.hid (show Lg w w2 [(R1, (qE2 n0 n1 n2 n3 n4 n5 n6 n7 ad st lf a1 N1 c1 a2 N2 c2 a3 N3 c3 a4 N4 c4 a5 N5 c5 sq), 48)] [] from HL1.out.kept h)
 clear h
 rcases V1 with _ | _
 ·skip
  have hres : RES = false := by rw [HB.out]; rfl
  go_wp2_with fail
  go_ret
  exact ⟨by rw [hres]; rfl, HL2.out.below⟩
 go_wp2_with (first
  | (refine wpList_load_at (by kernel_rfl) 43 (.tmp 10) rfl (R1) 12 rfl 48 (qE2 n0 n1 n2 n3 n4 n5 n6 n7 ad st lf a1 N1 c1 a2 N2 c2 a3 N3 c3 a4 N4 c4 a5 N5 c5 sq) (0, 0) (HL2.out.get (.head _)) [.slice a2 N2 c2] rfl _ Tryz.underlying43 rfl (by kernel_rfl) ?_))
 refine ((HC2 _ (HI2.out.kept HL2.out.below)).out).mono ?_
 rintro e w3 ⟨rfl, h⟩
 have HL3 := Lib.hid (show Lg w w3 [(R1, (qE2 n0 n1 n2 n3 n4 n5 n6 n7 ad st lf a1 N1 c1 a2 N2 c2 a3 N3 c3 a4 N4 c4 a5 N5 c5 sq), 48)] [] from HL2.out.kept h)
 clear h
 rcases V2 with _ | _
 ·skip
  have hres : RES = false := by rw [HB.out]; rfl
  go_wp2_with fail
  go_ret
  exact ⟨by rw [hres]; rfl, HL3.out.below⟩
 go_wp2_with (first
  | (refine wpList_load_one (by kernel_rfl) 44 (.tmp 16) rfl (R1) 13 rfl 48 (qE2 n0 n1 n2 n3 n4 n5 n6 n7 ad st lf a1 N1 c1 a2 N2 c2 a3 N3 c3 a4 N4 c4 a5 N5 c5 sq) (0, 0) (HL3.out.get (.head _)) (.slice a3 N3 c3) rfl _ Tryz.underlying44 rfl (by kernel_rfl) ?_))
 refine ((HC3 _ (HI3.out.kept HL3.out.below)).out).mono ?_
 rintro e w4 ⟨rfl, h⟩
 have HL4 := Lib.hid (show Lg w w4 [(R1, (qE2 n0 n1 n2 n3 n4 n5 n6 n7 ad st lf a1 N1 c1 a2 N2 c2 a3 N3 c3 a4 N4 c4 a5 N5 c5 sq), 48)] [] from HL3.out.kept h)
 clear h
 rcases V3 with _ | _
 ·skip
  have hres : RES = false := by rw [HB.out]; rfl
  go_wp2_with fail
  go_ret
  exact ⟨by rw [hres]; rfl, HL4.out.below⟩
 go_wp2_with (first
  | (refine wpList_load_one (by kernel_rfl) 45 (.tmp 22) rfl (R1) 14 rfl 48 (qE2 n0 n1 n2 n3 n4 n5 n6 n7 ad st lf a1 N1 c1 a2 N2 c2 a3 N3 c3 a4 N4 c4 a5 N5 c5 sq) (0, 0) (HL4.out.get (.head _)) (.slice a4 N4 c4) rfl _ Tryz.underlying45 rfl (by kernel_rfl) ?_))
 refine ((HC4 _ (HI4.out.kept HL4.out.below)).out).mono ?_
 rintro e w5 ⟨rfl, h⟩
 have HL5 := Lib.hid (show Lg w w5 [(R1, (qE2 n0 n1 n2 n3 n4 n5 n6 n7 ad st lf a1 N1 c1 a2 N2 c2 a3 N3 c3 a4 N4 c4 a5 N5 c5 sq), 48)] [] from HL4.out.kept h)
 clear h
 rcases V4 with _ | _
 ·skip
  have hres : RES = false := by rw [HB.out]; rfl
  go_wp2_with fail
  go_ret
  exact ⟨by rw [hres]; rfl, HL5.out.below⟩
 by_cases g8 : 8 < N5
 ·have hd : decide ((8 : Int) < (N5 : Int)) = true := decide_eq_true (by omega)
  have hq : decide (N5 ≤ 8) = false := decide_eq_false (by omega)
  have hres : RES = false := by rw [HB.out, hq]; rfl
  go_wp2_with (first
   | (refine wpList_load_one (by kernel_rfl) 46 (.tmp 27) rfl (R1) 15 rfl 48 (qE2 n0 n1 n2 n3 n4 n5 n6 n7 ad st lf a1 N1 c1 a2 N2 c2 a3 N3 c3 a4 N4 c4 a5 N5 c5 sq) (0, 0) (HL5.out.get (.head _)) (.slice a5 N5 c5) rfl _ Tryz.underlying46 rfl (by kernel_rfl) ?_))
  go_ret
  exact ⟨by rw [hres]; rfl, HL5.out.below⟩
 have hd : decide ((8 : Int) < (N5 : Int)) = false := decide_eq_false (by omega)
 have hq8 : decide (N5 ≤ 8) = true := decide_eq_true (by omega)
 go_wp2_with (first
  | (refine wpList_load_one (by kernel_rfl) 46 (.tmp 27) rfl (R1) 15 rfl 48 (qE2 n0 n1 n2 n3 n4 n5 n6 n7 ad st lf a1 N1 c1 a2 N2 c2 a3 N3 c3 a4 N4 c4 a5 N5 c5 sq) (0, 0) (HL5.out.get (.head _)) (.slice a5 N5 c5) rfl _ Tryz.underlying46 rfl (by kernel_rfl) ?_)
  | (refine wpList_load_one (by kernel_rfl) 2 (.tmp 32) rfl (R1) 16 rfl 48 (qE2 n0 n1 n2 n3 n4 n5 n6 n7 ad st lf a1 N1 c1 a2 N2 c2 a3 N3 c3 a4 N4 c4 a5 N5 c5 sq) (0, 0) (HL5.out.get (.head _)) (.int .i64 sq) rfl _ Tryz.underlying2 rfl (by kernel_rfl) ?_))
 refine (from0_any sq 7 _).mono ?_
 rintro e w' ⟨rfl, rfl⟩
 rcases hi : inB 0 7 sq with _ | _
 ·have hres : RES = false := by rw [HB.out, hq8, hi]; rfl
  go_wp2_with fail
  go_ret
  exact ⟨by rw [hres]; rfl, HL5.out.below⟩
 have HB2 := Lib.hid (show RES = allR (fun i => gtB (gtAt g i)) N5 from by rw [HB.out, hq8, hi]; rfl)
 clear HB hi
 go_wp2_with (first
  | (refine wpList_load_one (by kernel_rfl) 46 (.tmp 37) rfl (R1) 15 rfl 48 (qE2 n0 n1 n2 n3 n4 n5 n6 n7 ad st lf a1 N1 c1 a2 N2 c2 a3 N3 c3 a4 N4 c4 a5 N5 c5 sq) (0, 0) (HL5.out.get (.head _)) (.slice a5 N5 c5) rfl _ Tryz.underlying46 rfl (by kernel_rfl) ?_))
 have HI := Lib.hid (HI5.out.kept HL5.out.below)
 have HLL := Lib.hid HL5.out
 go_loopw [4, 40] (fun _ i wr => ∃ k : Nat, i = .int .i64 (k : Int) ∧ k ≤ N5 ∧ (∀ j, j < k → gtB (gtAt g j) = true) ∧ Below w5.heap.size w5 wr) (fun _ i _ => N5 - (intOf i).toNat)
 case atStart => exact ⟨0, rfl, by omega, fun j hj => absurd hj (by omega), Below.refl _ _⟩
 case round =>
  obtain ⟨k, rfl, hk, hall, hb⟩ := hrel
  have HA := Lib.hid hall
  clear hall
  by_cases hkn : k < N5
  ·have hkl : k < g.length := by have := HN.out; omega
   have hi1 : (0 : Int) ≤ (k : Int) := by omega
   have hi2 : (k : Int) < (N5 : Int) := by omega
   obtain ⟨b, o, rfl, hlt, hc⟩ := HI.out.at (by omega)
   have HCs := Lib.hid (fun j v hv => (hb.cell (p := ⟨b, _, none⟩) hlt).trans (hc k _ (gtAt_some hkl) j v hv))
   have HGR := fun W => Lib.hid (gotRight_any (gtAt g k) W (HO.out k hkl))
   have HXt := Lib.hid (show gtB (gtAt g k) = true → ∀ j, j < k + 1 → gtB (gtAt g j) = true from fun h j hj => (Nat.lt_or_ge j k).elim (HA.out j) (fun q => (show j = k by omega) ▸ h))
   have HXf := Lib.hid (show gtB (gtAt g k) = false → RES = false from fun h => by rw [HB2.out]; exact allR_no hkn h)
   clear hc
   generalize gtB (gtAt g k) = GB at *
   generalize gtAt g k = x at *
   obtain ⟨s, p, dt⟩ := x
   unfold gtL at HCs HGR
   dsimp only at *
   go_wp2_with (first
    | (refine wpList_load_cells rfl 144 (.tmp 42) rfl b (o + k * 3) rfl [.int .i64 s, .int .i64 p, .string dt] HCs.out _ Tryz.underlying144 rfl (by kernel_rfl) ?_)
    | (refine wpList_alloc_h rfl 144 rfl (.agg #[.int .i64 0, .int .i64 0, .string ByteArray.empty]) (by kernel_rfl) #[.int .i64 0, .int .i64 0, .string ByteArray.empty] rfl ?_; intro v1 SR1 e1 g1 b1; have HM1 := Lib.hid (show Lg wr v1 [(SR1, #[.int .i64 0, .int .i64 0, .string ByteArray.empty], 144)] [] from (Lg.first wr).box e1 g1 b1); clear g1 b1 e1)
    | (refine wpList_put_at rfl 144 (.tmp 4) (.tmp 43) rfl rfl (SR1) 0 rfl (.agg #[.int .i64 s, .int .i64 p, .string dt]) rfl #[.int .i64 s, .int .i64 p, .string dt] rfl 144 #[.int .i64 0, .int .i64 0, .string ByteArray.empty] #[.int .i64 s, .int .i64 p, .string dt] (HM1.out.get (.head _)) (by kernel_rfl) (by kernel_rfl) (by kernel_rfl) (by kernel_rfl) ?_; intro v2 g2 o2; have HM2 := Lib.hid (show Lg wr v2 [(SR1, #[.int .i64 s, .int .i64 p, .string dt], 144)] [] from HM1.out.put 0 rfl g2 o2 (fun _ h => nomatch h) (fun _ h => nomatch h) rfl); clear g2 o2)
    | (refine wpList_load_at rfl 144 (.tmp 4) rfl (SR1) 0 rfl 144 #[.int .i64 s, .int .i64 p, .string dt] (0, 0) (HM2.out.get (.head _)) [.int .i64 s, .int .i64 p, .string dt] rfl _ Tryz.underlying144 rfl (by kernel_rfl) ?_))
   refine ((HGR _).out).mono ?_
   rintro e v3 ⟨rfl, h⟩
   have HM3 := Lib.hid (show Lg wr v3 [(SR1, #[.int .i64 s, .int .i64 p, .string dt], 144)] [] from HM2.out.kept h)
   clear h
   rcases GB with _ | _
   ·have hres := HXf.out rfl
    go_wp2_with fail
    go_ret
    exact ⟨by rw [hres]; rfl, HLL.out.below.trans ((hb.trans (HM3.out.below.mono hb.size)).mono HLL.out.below.size)⟩
   have hal := Lib.hid (HXt.out rfl)
   go_wp2_with fail
   go_roundw
   case rel => exact ⟨k + 1, by go_num, by omega, hal.out, hb.trans (HM3.out.below.mono hb.size)⟩
   case measure => simp [intOf]; omega
  ·have hres : RES = true := by rw [HB2.out]; exact allR_yes (fun i hi => HA.out i (by omega))
   go_wp2_with fail
   go_ret
   exact ⟨by rw [hres]; rfl, HLL.out.below.trans (hb.mono HLL.out.below.size)⟩
end Go.Proofs.YtioldepgoodipaaGreat
namespace Go.Proofs.YtioldepgoodipaaGreat
open Go.RowKit
set_option linter.unusedVariables false

theorem joined_empty (s : ByteArray) : ByteArray.mk ((⟨#[]⟩ : ByteArray).data.toList ++ s.data.toList).toArray = s := by
 apply ByteArray.ext
 simp

set_option maxHeartbeats 2000000 in
theorem fresh_any (n : Int) (s : ByteArray) (w : World) (hs : s.size ≤ 1000000) :
  Calls Tryz.prog 203 #[.agg #[.int .i64 n, .string s]] w fun e w' => e = .returned (.agg #[.int .i64 n, .string s]) ∧ Below w.heap.size w w' := by
 have HJ := fun W => Lib.hid (joined_any ⟨#[]⟩ s W (by decide) hs)
 rw [joined_empty] at HJ
 go_enter Tryz.func203, Tryz.ntmps203
 go_wp2_with fail
 go_region_with (go_at_call 170; refine (HJ _).out.mono ?_; rintro e w1 ⟨rfl, h1⟩; obtain ⟨c1, f1⟩ := bcell h1; have z1 : w.heap.size < w1.heap.size := (by have := h1.size; simp at this; omega); have z2 : w.heap.size + 1 < w1.heap.size := (by have := h1.size; simp at this; omega))
 all_goals
  go_wp2
  exact bodyPost_ret (v := .agg #[.int .i64 n, .string s]) (by simp [results, Tryz.results203, go_sem, c1]) rfl
   ⟨rfl, ((((((Below.refl _ _).alloc (Nat.le_refl _) _).alloc (by simp) _).drew).trans (h1.mono (by simp; omega))).setCell (by simp) _).setCell (by simp) _⟩

end Go.Proofs.YtioldepgoodipaaGreat
namespace Go.Proofs.YtioldepgoodipaaGreat
open Go.RowKit Go.Joins
set_option linter.unusedVariables false

def CansSmall (l : List (Int × ByteArray)) : Prop := ∀ x ∈ l, x.2.size ≤ 1000000
theorem CansSmall.at {l : List (Int × ByteArray)} (h : CansSmall l) {i : Nat} (hi : i < l.length) : (canAt l i).2.size ≤ 1000000 := h _ (List.mem_of_getElem? (canAt_some hi))
theorem CansSmall.of_all {l : List (Int × ByteArray)} (h : allB l = true) : CansSmall l := by
 intro x hx
 unfold allB at h
 rw [List.all_eq_true] at h
 have := h x hx
 unfold canB at this
 simp at this
 omega

set_option maxRecDepth 100000 in
set_option maxHeartbeats 4000000 in
theorem freshQueue_any (a : Option Addr) (c : Nat) (l : List (Int × ByteArray)) (w : World) (h : CansIn w a l) (hs : CansSmall l) (hlen : l.length ≤ 1048576) :
  Calls Tryz.prog 139 #[.agg #[.slice a l.length c]] w fun e w' => ∃ a2 c2, e = .returned (.agg #[.slice a2 l.length c2]) ∧ l.length ≤ c2 ∧ NewIn w.heap.size w'.heap.size w' a2 l ∧ Below w.heap.size w w' := by
 obtain ⟨i0, hi, hz0, hz1, hz2⟩ := info_parts CansTo.info
 obtain ⟨N, hN⟩ : ∃ N, l.length = N := ⟨_, rfl⟩
 have HN := Lib.hid hN
 have HH := Lib.hid h
 have HS := Lib.hid hs
 have HB := Lib.hid (fun o o' : Obj => ((Below.refl w.heap.size w).alloc (Nat.le_refl _) o).alloc (by simp) o')
 rw [hN] at hlen ⊢
 clear hN h hs
 go_enter Tryz.func139, Tryz.ntmps139
 go_wp2_with (at_make; refine wpList_make_full _ rfl (.tmp 8) (.tmp 8) 41 rfl (w.heap.size + 2) 66 i0 (.agg #[.int .i64 0, .string ByteArray.empty]) 2 Tryz.underlying41 hi hz0 hz1 .i64 .i64 (N : Int) (N : Int) N (by rfl) (by rfl) (by omega) (by omega) (by rw [hz2]; omega) (by unfold maxLen; omega) (by simp) ?_; intro w1 hown hgrow; have hb1 := (Below.refl _ _).grown hgrow (Nat.le_refl _) (fun _ h => by cases h); have e0 : w1.cell? ⟨w.heap.size, 0, none⟩ = some (.slice a N c) := (hb1.cell (p := ⟨w.heap.size, 0, none⟩) (by simp; omega)).trans (by simp [go_sem]); have e1 : w1.cell? ⟨w.heap.size + 1, 0, none⟩ = some (.slice none 0 0) := (hb1.cell (p := ⟨w.heap.size + 1, 0, none⟩) (by simp)).trans (by simp [go_sem]); have f1 : w1.frozen? ⟨w.heap.size + 1, 0, none⟩ = false := (hb1.frozen (p := ⟨w.heap.size + 1, 0, none⟩) (by simp)).trans (by simp [go_sem]); have bw : Below w.heap.size w w1 := (HB.out _ _).trans (hb1.mono (by simp; omega)); have HO := Lib.hid hown; have HS1 := Lib.hid hb1.size; clear hown hgrow hb1)
 have HB0 := Lib.hid (own_row2 HO.out)
 have hz : Hid (N = 0 ∨ w.heap.size + 2 < w1.heap.size) := Lib.hid (by
  rcases Nat.eq_zero_or_pos N with h | h
  ·exact .inl h
  ·right
   obtain ⟨g, cap', hv, _, hlt⟩ := World.ownsRow.form' HO.out h
   simp at hv
   omega)
 have hs1 : w.heap.size + 2 ≤ w1.heap.size := by have := HS1.out; simpa using this
 clear HO HS1
 obtain ⟨G, hG⟩ : ∃ G, w.heap.size + 1 + 1 = G := ⟨_, rfl⟩
 have HG := Lib.hid hG
 rw [hG]
 clear hG
 rcases Nat.eq_zero_or_pos N with hN0 | hN0
 ·subst hN0
  have hl : l = [] := List.eq_nil_of_length_eq_zero HN.out
  subst hl
  refine wp_loop_rounds 1 ?_
  rw [rounds_succ]; go_wp2
  exact bodyPost_ret (v := .agg #[.slice (some ⟨G, 0, none⟩) 0 0]) (by simp [results, Tryz.results139, go_sem, e1]) rfl
   ⟨some ⟨G, 0, none⟩, ⟨0, rfl⟩, .inl rfl, bw.setCell (by simp) _⟩
 have hgz : w.heap.size + 2 < w1.heap.size := by have := hz.out; omega
 obtain ⟨b, o, rfl, hlt, hc⟩ : ∃ b o, a = some ⟨b, o, none⟩ ∧ b < w.heap.size ∧ ∀ (i : Nat) x, l[i]? = some x → w.cell? ⟨b, o + i * 2, none⟩ = some (.int .i64 x.1) ∧ w.cell? ⟨b, o + i * 2 + 1, none⟩ = some (.string x.2) := by
  rcases HH.out with h | h
  ·have := HN.out
   rw [h] at this
   simp at this
   omega
  ·exact h
 have HI := Lib.hid hc
 clear hc hz HH
 have hG1 : w.heap.size + 1 < G := by have := HG.out; omega
 have HB1 : Hid (∀ j, j < N * 2 → (w1.cell? ⟨G, j, none⟩).isSome = true ∧ w1.frozen? ⟨G, j, none⟩ = false) := Lib.hid (fun j hj => by
  have := HB0.out j hj
  rw [← HG.out]
  simpa using this)
 have hGl0 : G < w1.heap.size := by have := HG.out; omega
 clear HB0 HG
 go_loopw [4, 5, 13] (fun _ _ i wr => ∃ k : Nat, i = .int .i64 (k : Int) ∧ k ≤ N ∧ Below w.heap.size w wr ∧ w1.heap.size ≤ wr.heap.size ∧
  (∀ j, j < k → wr.cell? ⟨G, j * 2, none⟩ = some (.int .i64 (canAt l j).1) ∧ wr.cell? ⟨G, j * 2 + 1, none⟩ = some (.string (canAt l j).2)) ∧
  (∀ j, j < N * 2 → (wr.cell? ⟨G, j, none⟩).isSome = true ∧ wr.frozen? ⟨G, j, none⟩ = false) ∧ wr.cell? ⟨w.heap.size + 1, 0, none⟩ = some (.slice none 0 0) ∧ wr.frozen? ⟨w.heap.size + 1, 0, none⟩ = false) (fun _ _ i _ => N - (intOf i).toNat)
 case atStart => exact ⟨0, rfl, by omega, bw, Nat.le_refl _, fun j hj => absurd hj (by omega), HB1.out, e1, f1⟩
 case round =>
  obtain ⟨k, rfl, hk, hb, hsz, hdone, hroom, q1, q2⟩ := hrel
  have HD := Lib.hid hdone
  have HR := Lib.hid hroom
  clear hdone hroom
  have hGl : G < wr.heap.size := by omega
  by_cases hkn : k < N
  ·have hkl : k < l.length := by have := HN.out; omega
   have d0 := (hb.cell (p := ⟨b, _, none⟩) hlt).trans (HI.out k _ (canAt_some hkl)).1
   have d1 := (hb.cell (p := ⟨b, _, none⟩) hlt).trans (HI.out k _ (canAt_some hkl)).2
   have hsm := HS.out.at hkl
   obtain ⟨x, hx⟩ : ∃ x, canAt l k = x := ⟨_, rfl⟩
   rw [hx] at d0 d1 hsm
   have HX := Lib.hid hx
   clear hx
   obtain ⟨n, s⟩ := x
   simp only at d0 d1 hsm
   obtain ⟨u0, e0'⟩ := Option.isSome_iff_exists.1 (HR.out (k * 2) (by omega)).1
   obtain ⟨u1, e1'⟩ := Option.isSome_iff_exists.1 (HR.out (k * 2 + 1) (by omega)).1
   have g0 := (HR.out (k * 2) (by omega)).2
   have g1 := (HR.out (k * 2 + 1) (by omega)).2
   have hbw : b < wr.heap.size := by omega
   go_wp2_with fail
   refine (fresh_any n s _ hsm).mono ?_
   rintro e w2 ⟨rfl, h2⟩
   have hb2 := ((Below.refl wr.heap.size wr).alloc (Nat.le_refl _) (.cells #[.int .i64 n, .string s] 66)).trans (h2.mono (by simp))
   have p0 := (hb2.cell (p := ⟨G, k * 2, none⟩) hGl).trans e0'
   have p1 := (hb2.cell (p := ⟨G, k * 2 + 1, none⟩) hGl).trans e1'
   have r0 := (hb2.frozen (p := ⟨G, k * 2, none⟩) hGl).trans g0
   have r1 := (hb2.frozen (p := ⟨G, k * 2 + 1, none⟩) hGl).trans g1
   have HB2 := Lib.hid hb2
   clear hb2 h2
   go_wp2_with fail
   go_roundw
   case rel =>
    have hb2 := HB2.out
    refine ⟨k + 1, by go_num, by omega, ((hb.trans (hb2.mono (by omega))).setCell (by simp; omega) _).setCell (by simp; omega) _, by have := hb2.size; simp; omega, fun j hj => ?_, fun j hj => ?_, ?_, ?_⟩
    ·rcases Nat.lt_or_ge j k with h | h
     ·rw [set2_other (by omega) (by omega), set2_other (by omega) (by omega)]
      exact ⟨(hb2.cell (p := ⟨G, _, none⟩) hGl).trans (HD.out j h).1, (hb2.cell (p := ⟨G, _, none⟩) hGl).trans (HD.out j h).2⟩
     ·obtain rfl : j = k := by omega
      rw [HX.out]
      exact set2_same p0 p1
    ·refine ⟨set2_some p0 p1 ?_, ?_⟩
     ·rw [hb2.cell (p := ⟨G, j, none⟩) hGl]
      exact (HR.out j hj).1
     ·rw [World.frozen?_setCell, World.frozen?_setCell, hb2.frozen (p := ⟨G, j, none⟩) hGl]
      exact (HR.out j hj).2
    ·rw [World.cell?_setCell_other _ _ _ _ (by simp <;> omega), World.cell?_setCell_other _ _ _ _ (by simp <;> omega), hb2.cell (p := ⟨w.heap.size + 1, 0, none⟩) (by simp; omega)]
     exact q1
    ·rw [World.frozen?_setCell, World.frozen?_setCell, hb2.frozen (p := ⟨w.heap.size + 1, 0, none⟩) (by simp; omega)]
     exact q2
   case measure => simp [intOf]; omega
  ·have hge : N ≤ k := by omega
   go_wp2_with fail
   refine bodyPost_ret (v := .agg #[.slice (some ⟨G, 0, none⟩) N N]) (by simp [results, Tryz.results139, go_sem, q1]) rfl
    ⟨_, _, rfl, Nat.le_refl _, ?_, hb.setCell (by simp) _⟩
   refine NewIn.wide (lo := G) (hi := wr.heap.size) (NewIn.out (lo' := w.heap.size + 1) (hi' := w.heap.size + 2) (w := wr) ?_ ((Out.refl _ _ _).setCell (by simp) (by simp) _) (.inr (by omega))) (by omega) (by simp)
   exact .inr ⟨G, 0, rfl, Nat.le_refl _, hGl, hGl, fun j hj => by
    have := (HR.out j (by have := HN.out; omega)).2
    simpa using this, fun i x hx => by
    have hi : i < l.length := (List.getElem?_eq_some_iff.1 hx).1
    have := HD.out i (by have := HN.out; omega)
    rw [canAt_some hi] at hx
    obtain rfl := Option.some.inj hx
    simpa using this⟩
end Go.Proofs.YtioldepgoodipaaGreat
namespace Go.Proofs.YtioldepgoodipaaGreat
open Go.RowKit
set_option linter.unusedVariables false

def olderD (x : Dv) : Dv := ⟨x.n, x.ad, x.g + 1⟩
def DvOut (w : World) (l : List Dv) (e : Ending) (w' : World) : Prop :=
 ∃ a cap, e = .returned (.slice a l.length cap) ∧ RsNew dvL 10 162 w.heap.size w'.heap.size w' a l ∧ Below w.heap.size w w'
end Go.Proofs.YtioldepgoodipaaGreat
namespace Go.Proofs.YtioldepgoodipaaGreat
open Go.RowKit
set_option linter.unusedVariables false

theorem ndB_of {x : Nd} (h : ndB x = true) : clB x.c = true ∧ qRightB x.q = true ∧ tabB x.t = true ∧ dvsB x.d = true ∧ x.g.length ≤ 8 ∧ inB 0 7 x.s = true ∧ ∀ i, i < x.g.length → gtB (gtAt x.g i) = true := by
 unfold ndB at h
 simp only [Bool.and_eq_true, decide_eq_true_eq] at h
 obtain ⟨h1, h2, h3, h4, h5, h6, h7⟩ := h
 exact ⟨h1, h2, h3, h4, h5, h6, allR_of h7⟩
structure NdFit (x : Nd) : Prop where
 small : NdSmall x
 cans : CansSmall x.q
 ses : ∀ i, i < x.t.length → (seAt x.t i).dt.size ≤ 1000000
 gots : ∀ i, i < x.g.length → (gtAt x.g i).dt.size ≤ 1000000
theorem tab_small {l : List Se} (h : tabB l = true) : ∀ x ∈ l, x.dt.size ≤ 223 := by
 intro x hx
 obtain ⟨i, hi, rfl⟩ := List.mem_iff_getElem.1 hx
 have h1 := (tabB_of h).2 i hi
 have e : seAt l i = l[i] := by
  have := seAt_some hi
  rw [List.getElem?_eq_getElem hi] at this
  exact (Option.some.inj this).symm
 unfold okAt at h1
 rw [e, Bool.and_eq_true] at h1
 have h2 := h1.1
 unfold seB at h2
 simp only [Bool.and_eq_true, decide_eq_true_eq] at h2
 have h3 := inB_of h2.2.2.2.2.1
 have h4 := h2.2.2.2.2.2.2.2
 omega
theorem se_small {l : List Se} {n : Nat} (h : ∀ x ∈ l, x.dt.size ≤ n) : ∀ i, i < l.length → (seAt l i).dt.size ≤ n := fun i hi => h _ (List.mem_of_getElem? (seAt_some hi))
theorem got_small {g : Gt} (h : gtB g = true) : g.dt.size ≤ 223 := by
 unfold gtB at h
 simp only [Bool.and_eq_true, decide_eq_true_eq, beq_iff_eq] at h
 have h1 : (defD g.p).s ≤ 223 := by
  have := ixD_le g.p
  unfold defD
  generalize ixD g.p = i at *
  rcases i with _ | _ | _ | _ | _ | _ | _ | i
  all_goals first | decide | omega
 have := h.2.2
 omega
theorem fit_of {x : Nd} (h : ndB x = true) : NdFit x := by
 obtain ⟨h1, h2, h3, h4, h5, h6, h7⟩ := ndB_of h
 have k1 := (clB_of h1).2.1
 have k2 := (qRightB_of h2).1
 have k3 := (tabB_of h3).1
 have k4 := (dvsB_of h4).1
 have s3 := se_small (tab_small h3)
 exact ⟨⟨by omega, by omega, ⟨by omega, fun i hi => by have := s3 i hi; omega⟩, by omega, ⟨by omega, fun i hi => by have := got_small (h7 i hi); omega⟩⟩, CansSmall.of_all (qRightB_of h2).2, fun i hi => by have := s3 i hi; omega, fun i hi => by have := got_small (h7 i hi); omega⟩
def ndTick (x : Nd) : Nd := ⟨tickC x.c, x.q, tickL x.t, tickD x.d, x.g, x.s⟩
end Go.Proofs.YtioldepgoodipaaGreat
namespace Go.Proofs.YtioldepgoodipaaGreat
open Go.RowKit
set_option linter.unusedVariables false

def canL (x : Int × ByteArray) : List Value := [.int .i64 x.1, .string x.2]
theorem canL_len (x : Int × ByteArray) : (canL x).length = 2 := rfl
theorem RsNew.cans {e : TypeId} {lo hi : Nat} {w : World} {a : Option Addr} {l : List (Int × ByteArray)} (h : RsNew canL 2 e lo hi w a l) : NewIn lo hi w a l := by
 rcases h with h | ⟨b, o, row, rfl, h1, h2, hg, hs, hc⟩
 ·exact .inl h
 ·refine .inr ⟨b, o, rfl, h1, h2, (Array.getElem?_eq_some_iff.1 hg).1, fun j _ => frozen_of_row w b (o + j) _ _ hg, fun i x hx => ⟨?_, ?_⟩⟩
  ·have := hc i x hx 0 _ rfl
   rw [Nat.add_zero] at this
   rw [cell_of_row w b _ _ _ (0, 0) hg]
   exact this
  ·rw [cell_of_row w b _ _ _ (0, 0) hg]
   exact hc i x hx 1 _ rfl
set_option maxRecDepth 100000 in
theorem waitingInC_any (a : Option Addr) (n c : Nat) (w : World) :
  Calls Tryz.prog 140 #[.agg #[.slice a n c]] w fun e w' => e = .returned (.agg #[.slice a n c]) ∧ Below w.heap.size w w' := by
 go_enter Tryz.func140, Tryz.ntmps140
 go_wp2_with (first
  | (refine wpList_box_h rfl 43 (.tmp 0) rfl #[.slice a n c] rfl ?_; intro w1 R1 e1 g1 b1; have HL1 := Lib.hid (show Lg w w1 [(R1, #[.slice a n c], 43)] [] from (Lg.first w).box e1 g1 b1); clear g1 b1 e1)
  | (refine wpList_alloc_h rfl 212 rfl (.agg #[.slice none 0 0]) (by kernel_rfl) #[.slice none 0 0] rfl ?_; intro w2 R2 e2 g2 b2; have qR2_R1 : R1 < R2 := Nat.lt_of_lt_of_eq (HL1.out.lt (.head _)) e2; have HL2 := Lib.hid (show Lg w w2 [(R2, #[.slice none 0 0], 212), (R1, #[.slice a n c], 43)] [] from HL1.out.box e2 g2 b2); clear g2 b2 e2)
  | (refine wpList_load_one rfl 41 (.tmp 3) rfl (R1) 0 rfl 43 #[.slice a n c] (0, 0) (HL2.out.get qEm1) (.slice a n c) rfl _ Tryz.underlying41 rfl (by kernel_rfl) ?_)
  | (refine wpList_put_at rfl 212 (.tmp 2) (.tmp 5) rfl rfl (R2) 0 rfl (.agg #[.slice a n c]) rfl #[.slice a n c] rfl 212 #[.slice none 0 0] #[.slice a n c] (HL2.out.get (.head _)) (by kernel_rfl) (by kernel_rfl) (by kernel_rfl) (by kernel_rfl) ?_; intro w3 g3 o3; have HL3 := Lib.hid (show Lg w w3 [(R2, #[.slice a n c], 212), (R1, #[.slice a n c], 43)] [] from HL2.out.put 0 rfl g3 o3 (List.forall_mem_cons.2 ⟨Nat.ne_of_lt qR2_R1, (fun _ h => nomatch h)⟩) (fun _ h => nomatch h) rfl); clear g3 o3))
 exact bodyPost_ret (results_cell_row (p := 2) (ty := 212) (by kernel_rfl) _ _ (R2) 212 _ (0, 0) _ rfl (HL3.out.get (.head _)) Tryz.underlying212 rfl (by kernel_rfl)) rfl ⟨rfl, HL3.out.below⟩
set_option maxRecDepth 100000 in
set_option maxHeartbeats 8000000 in
theorem freshQueue_new (a : Option Addr) (cap : Nat) (l : List (Int × ByteArray)) (w : World) (h : CansIn w a l) (hs : CansSmall l) (hlen : l.length ≤ 1048576) :
  Calls Tryz.prog 139 #[.agg #[.slice a l.length cap]] w fun e w' => ∃ a', e = .returned (.agg #[.slice a' l.length l.length]) ∧ RsNew canL 2 66 w.heap.size w'.heap.size w' a' l ∧ Below w.heap.size w w' := by
 obtain ⟨i0, hi, hz0, hz1, hz2⟩ := info_parts CansTo.info
 obtain ⟨N, hN⟩ : ∃ N, l.length = N := ⟨_, rfl⟩
 have HN := Lib.hid hN
 have HH := Lib.hid h
 have HSm := Lib.hid hs
 rw [hN] at hlen ⊢
 clear hN h hs
 go_enter Tryz.func139, Tryz.ntmps139
 go_wp2_with (first
  | (refine wpList_box_h rfl 212 (.tmp 0) rfl #[.slice a N cap] rfl ?_; intro w1 R1 e1 g1 b1; have HL1 := Lib.hid (show Lg w w1 [(R1, #[.slice a N cap], 212)] [] from (Lg.first w).box e1 g1 b1); clear g1 b1 e1)
  | (refine wpList_alloc_h rfl 43 rfl (.agg #[.slice none 0 0]) (by kernel_rfl) #[.slice none 0 0] rfl ?_; intro w2 R2 e2 g2 b2; have qR2_R1 : R1 < R2 := Nat.lt_of_lt_of_eq (HL1.out.lt (.head _)) e2; have HL2 := Lib.hid (show Lg w w2 [(R2, #[.slice none 0 0], 43), (R1, #[.slice a N cap], 212)] [] from HL1.out.box e2 g2 b2); clear g2 b2 e2)
  | (refine wpList_load_one rfl 41 (.tmp 6) rfl (R1) 0 rfl 212 #[.slice a N cap] (0, 0) (HL2.out.get qEm1) (.slice a N cap) rfl _ Tryz.underlying41 rfl (by kernel_rfl) ?_)
  | (at_make; refine wpList_make_full _ rfl (.tmp 8) (.tmp 8) 41 rfl w2.heap.size 66 i0 (.agg #[.int .i64 0, .string ByteArray.empty]) 2 Tryz.underlying41 hi hz0 hz1 .i64 .i64 (N : Int) (N : Int) N (by rfl) (by rfl) (by omega) (by omega) (by rw [hz2]; omega) (by unfold maxLen; omega) (Nat.le_refl _) ?_; intro w3 hown hgrow; have hb3 : Below w2.heap.size w2 w3 := (Below.refl _ _).grown hgrow (Nat.le_refl _) (fun _ h => by cases h); have HL3 := Lib.hid (HL2.out.kept hb3); have HOw := Lib.hid hown; have HB3 := Lib.hid hb3; clear hown hgrow hb3)
  | (refine wpList_load_one rfl 41 (.tmp 10) rfl (R1) 0 rfl 212 #[.slice a N cap] (0, 0) (HL3.out.get qEm1) (.slice a N cap) rfl _ Tryz.underlying41 rfl (by kernel_rfl) ?_))
 obtain ⟨G, hG⟩ : ∃ G, w2.heap.size = G := ⟨_, rfl⟩
 have hGw : w.heap.size + 2 ≤ G := by
  have h1 := HL2.out.lt (.head _)
  have h2 := HL2.out.lt qEm1
  have h3 := HL2.out.ge qEm1
  omega
 have hR1 : R1 < G := by rw [← hG]; exact HL2.out.lt qEm1
 have hR2 : R2 < G := by rw [← hG]; exact HL2.out.lt (.head _)
 have hR2g : w.heap.size ≤ R2 := HL2.out.ge (.head _)
 have HRb := Lib.hid (HL3.out.get (.head _))
 rw [hG]
 rw [hG] at HOw HB3
 rcases Nat.eq_zero_or_pos N with hN0 | hN0
 ·subst hN0
  have hl : l = [] := List.eq_nil_of_length_eq_zero HN.out
  refine wp_loop_rounds 1 ?_
  rw [rounds_succ]
  go_wp2_with (first
   | (refine wpList_put_at rfl 43 (.tmp 2) (.tmp 25) rfl rfl (R2) 0 rfl (.agg #[.slice (some ⟨G, 0, none⟩) 0 0]) rfl #[.slice (some ⟨G, 0, none⟩) 0 0] rfl 43 #[.slice none 0 0] #[.slice (some ⟨G, 0, none⟩) 0 0] (HL3.out.get (.head _)) (by kernel_rfl) (by kernel_rfl) (by kernel_rfl) (by kernel_rfl) ?_; intro w4 g4 o4; have HL4 := Lib.hid (show Lg w w4 [(R2, #[.slice (some ⟨G, 0, none⟩) 0 0], 43), (R1, #[.slice a 0 cap], 212)] [] from HL3.out.put 0 rfl g4 o4 (List.forall_mem_cons.2 ⟨Nat.ne_of_lt qR2_R1, (fun _ h => nomatch h)⟩) (fun _ h => nomatch h) rfl); clear g4 o4))
  exact bodyPost_ret (results_cell_row (p := 2) (ty := 43) (by kernel_rfl) _ _ (R2) 43 _ (0, 0) _ rfl (HL4.out.get (.head _)) Tryz.underlying43 rfl (by kernel_rfl)) rfl ⟨_, rfl, .inl hl, HL4.out.below⟩
 obtain ⟨row0, hg0, hs0⟩ : ∃ row0, w3.heap[G]? = some (.cells row0 66 (0, 0)) ∧ row0.size = N * 2 := by
  rcases HOw.out.2 with ⟨h', _⟩ | ⟨g', cap', cur, h', _, hg, _, _, hc, _⟩
  ·simp at h'
  ·simp only [Value.slice.injEq, Option.some.injEq, Addr.mk.injEq, and_true, true_and] at h'
   obtain ⟨rfl, rfl⟩ := h'
   exact ⟨cur, hg, hc⟩
 have HG0 := Lib.hid hg0
 have HS0 := Lib.hid hs0
 have hG3 : G < w3.heap.size := (Array.getElem?_eq_some_iff.1 hg0).1
 clear HOw hg0 hs0 hG
 obtain ⟨b, o, rfl, hlt, hc⟩ : ∃ b o, a = some ⟨b, o, none⟩ ∧ b < w.heap.size ∧ ∀ (i : Nat) x, l[i]? = some x → w.cell? ⟨b, o + i * 2, none⟩ = some (.int .i64 x.1) ∧ w.cell? ⟨b, o + i * 2 + 1, none⟩ = some (.string x.2) := by
  rcases HH.out with h | h
  ·have := HN.out
   rw [h] at this
   simp at this
   omega
  ·exact h
 have HI := Lib.hid hc
 clear hc HH
 go_loopw [4, 5, 13] (fun _ _ i wr => ∃ (k : Nat) (row : Array Value), i = .int .i64 (k : Int) ∧ k ≤ N ∧ Out G (G + 1) w3 wr ∧ wr.heap[G]? = some (.cells row 66 (0, 0)) ∧ row.size = N * 2 ∧
  (∀ j, j < k → ∀ c v, (canL (canAt l j))[c]? = some v → row[j * 2 + c]? = some v)) (fun _ _ i _ => N - (intOf i).toNat)
 case atStart => exact ⟨0, row0, rfl, by omega, Out.refl _ _ _, HG0.out, HS0.out, fun j hj => absurd hj (by omega)⟩
 case round =>
  obtain ⟨k, row, rfl, hk, hb, hgr, hrs, hdone⟩ := hrel
  have HD := Lib.hid hdone
  have HR := Lib.hid hgr
  have HRs := Lib.hid hrs
  have hsz : G < wr.heap.size := (Array.getElem?_eq_some_iff.1 hgr).1
  have hbw := HL3.out.below
  clear hdone hgr hrs
  by_cases hkn : k < N
  ·have hkl : k < l.length := by have := HN.out; omega
   have hi1 : (0 : Int) ≤ (k : Int) := by omega
   have hi2 : (k : Int) < (N : Int) := by omega
   have hcell : ∀ (j : Nat) v, (canL (canAt l k))[j]? = some v → wr.cell? ⟨b, o + k * 2 + j, none⟩ = some v := by
    intro j v hv
    refine (hb.cell (p := ⟨b, _, none⟩) (Nat.lt_of_lt_of_le hlt hbw.size) (.inl (by show b < G; omega))).trans ((hbw.cell (p := ⟨b, _, none⟩) hlt).trans ?_)
    have h2 := HI.out k _ (canAt_some hkl)
    rcases j with _ | _ | j
    ·cases hv
     exact h2.1
    ·cases hv
     exact h2.2
    ·simp [canL] at hv
   have HCs := Lib.hid hcell
   clear hcell
   have HSk := Lib.hid (HSm.out.at hkl)
   obtain ⟨x, hx⟩ : ∃ x, canAt l k = x := ⟨_, rfl⟩
   rw [hx] at HCs HSk
   have HX := Lib.hid hx
   clear hx
   obtain ⟨n, s⟩ := x
   unfold canL at HCs
   dsimp only at HCs HSk
   go_wp2_with (first
    | (refine wpList_load_cells rfl 66 (.tmp 16) rfl b (o + k * 2) rfl [.int .i64 n, .string s] HCs.out _ Tryz.underlying66 rfl (by kernel_rfl) ?_)
    | (refine wpList_alloc_h rfl 66 rfl (.agg #[.int .i64 0, .string ByteArray.empty]) (by kernel_rfl) #[.int .i64 0, .string ByteArray.empty] rfl ?_; intro v1 SR1 e1 g1 b1; have HM1 := Lib.hid (show Lg wr v1 [(SR1, #[.int .i64 0, .string ByteArray.empty], 66)] [] from (Lg.first wr).box e1 g1 b1); clear g1 b1 e1)
    | (refine wpList_put_at rfl 66 (.tmp 5) (.tmp 17) rfl rfl (SR1) 0 rfl (.agg #[.int .i64 n, .string s]) rfl #[.int .i64 n, .string s] rfl 66 #[.int .i64 0, .string ByteArray.empty] #[.int .i64 n, .string s] (HM1.out.get (.head _)) (by kernel_rfl) (by kernel_rfl) (by kernel_rfl) (by kernel_rfl) ?_; intro v2 g2 o2; have HM2 := Lib.hid (show Lg wr v2 [(SR1, #[.int .i64 n, .string s], 66)] [] from HM1.out.put 0 rfl g2 o2 (fun _ h => nomatch h) (fun _ h => nomatch h) rfl); clear g2 o2)
    | (refine wpList_load_at rfl 66 (.tmp 5) rfl (SR1) 0 rfl 66 #[.int .i64 n, .string s] (0, 0) (HM2.out.get (.head _)) [.int .i64 n, .string s] rfl _ Tryz.underlying66 rfl (by kernel_rfl) ?_))
   refine (fresh_any n s _ HSk.out).mono ?_
   rintro e v3 ⟨rfl, h⟩
   have HM3 := Lib.hid (show Lg wr v3 [(SR1, #[.int .i64 n, .string s], 66)] [] from HM2.out.kept h)
   clear h
   have hg2 := (HM3.out.below.block _ hsz).trans HR.out
   have HG2 := Lib.hid hg2
   clear hg2
   go_wp2_with (refine wpList_put_at rfl 66 (.tmp 22) (.tmp 21) rfl rfl (G) (k * 2) rfl (.agg #[.int .i64 n, .string s]) rfl #[.int .i64 n, .string s] rfl 66 row _ HG2.out (by kernel_rfl) (Nat.ble_eq_true_of_le (by show k * 2 + 2 ≤ row.size; rw [HRs.out]; omega)) (by rfl) rfl ?_; intro u3 g3 o3; have HG3 := Lib.hid g3; have HO3 := Lib.hid o3; clear g3 o3)
   go_roundw
   case rel =>
    refine ⟨k + 1, _, by go_num, by omega, hb.trans ((Out.of_below HM3.out.below).trans HO3.out), HG3.out, by rw [setAll_size, HRs.out], fun j hj c v hv => ?_⟩
    have hc7 : c < 2 := by
     have := (List.getElem?_eq_some_iff.1 hv).1
     rwa [canL_len] at this
    rcases Nat.lt_or_ge j k with h | h
    ·rw [setAll_off _ _ _ _ (.inl (by omega))]
     exact HD.out j h c v hv
    ·obtain rfl : j = k := by omega
     rw [HX.out] at hv
     exact setAll_at _ _ _ _ _ (by show j * 2 + 2 ≤ row.size; rw [HRs.out]; omega) hv
   case measure => simp [intOf]; omega
  ·have hge : N ≤ k := by omega
   have HRw := Lib.hid ((hb.block R2 (Nat.lt_trans hR2 hG3) (.inl hR2)).trans HRb.out)
   have HBw := Lib.hid (hb.below hbw (by omega) hbw.size)
   go_wp2_with (refine wpList_put_at rfl 43 (.tmp 2) (.tmp 25) rfl rfl (R2) 0 rfl (.agg #[.slice (some ⟨G, 0, none⟩) N N]) rfl #[.slice (some ⟨G, 0, none⟩) N N] rfl 43 #[.slice none 0 0] #[.slice (some ⟨G, 0, none⟩) N N] HRw.out (by kernel_rfl) (by kernel_rfl) (by kernel_rfl) (by kernel_rfl) ?_; intro u4 g4 o4; have HG4 := Lib.hid g4; have HO4 := Lib.hid o4; clear g4 o4)
   have hf : RsNew canL 2 66 w.heap.size u4.heap.size u4 (some ⟨G, 0, none⟩) l := .inr ⟨G, 0, row, rfl, by omega, Nat.lt_of_lt_of_le hsz HO4.out.size, (HO4.out.block G hsz (by omega)).trans HR.out, by rw [HRs.out, HN.out]; omega, fun i x hx c v hv => by
    have hi : i < l.length := (List.getElem?_eq_some_iff.1 hx).1
    rw [canAt_some hi] at hx
    obtain rfl := Option.some.inj hx
    rw [Nat.zero_add]
    exact HD.out i (by have := HN.out; omega) c v hv⟩
   exact bodyPost_ret (results_cell_row (p := 2) (ty := 43) (by kernel_rfl) _ _ (R2) 43 _ (0, 0) _ rfl HG4.out Tryz.underlying43 rfl (by kernel_rfl)) rfl ⟨_, rfl, hf, HO4.out.below HBw.out hR2g HBw.out.size⟩
theorem ncells_flat (l : List Int) : l.flatMap nC = ncells l := by
 unfold ncells
 induction l with
 | nil => rfl
 | cons x r ih => simp [nC, ih]
theorem cloneT_any (a : Option Addr) (cap : Nat) (l : List Int) (w : World) (h : NumsIn w a l) (hlen : l.length ≤ 1048576) :
  Calls Tryz.prog 147 #[.slice a l.length cap] w fun e w' => ∃ a' c', e = .returned (.slice a' l.length c') ∧ RsNew nC 1 2 w.heap.size w'.heap.size w' a' l ∧ Below w.heap.size w w' :=
 (clone_any a cap l w h hlen).mono fun e w' ⟨v, h1, h2, h3⟩ => by
  rw [← ncells_flat] at h2
  obtain ⟨a', c', rfl, _, hn⟩ := RsNew.of_owns (c := nC) nC_len h2
  exact ⟨a', c', h1, hn, h3⟩
set_option maxRecDepth 100000 in
set_option maxHeartbeats 8000000 in
theorem copied_any (n : Nm) (ad st lf : Int) (a : Option Addr) (cap : Nat) (l : List Int) (w : World) (h : NumsIn w a l) (hlen : l.length ≤ 1048576) :
  Calls Tryz.prog 138 #[clV n ad st lf (.slice a l.length cap)] w fun e w' => ∃ a' c', e = .returned (clV n ad st lf (.slice a' l.length c')) ∧ RsNew nC 1 2 w.heap.size w'.heap.size w' a' l ∧ Below w.heap.size w w' := by
 have HC := fun W hW => Lib.hid (cloneT_any a cap l W hW hlen)
 have HI := Lib.hid h
 obtain ⟨n0, n1, n2, n3, n4, n5, n6, n7⟩ := n
 unfold clV
 dsimp only at *
 obtain ⟨N, hN⟩ : ∃ N, l.length = N := ⟨_, rfl⟩
 have HN := Lib.hid hN
 rw [hN] at HC ⊢
 clear h hN hlen
 go_enter Tryz.func138, Tryz.ntmps138
 go_wp2_with (first
  | (refine wpList_box_h rfl 40 (.tmp 0) rfl #[.int .i64 n0, .int .i64 n1, .int .i64 n2, .int .i64 n3, .int .i64 n4, .int .i64 n5, .int .i64 n6, .bool n7, .int .i64 ad, .int .i64 st, .int .i64 lf, .slice a N cap] rfl ?_; intro w1 R1 e1 g1 b1; have HL1 := Lib.hid (show Lg w w1 [(R1, (qE3 n0 n1 n2 n3 n4 n5 n6 n7 ad st lf a N cap), 40)] [] from (Lg.first w).box e1 g1 b1); clear g1 b1 e1)
  | (refine wpList_alloc_h rfl 40 rfl (.agg #[.int .i64 0, .int .i64 0, .int .i64 0, .int .i64 0, .int .i64 0, .int .i64 0, .int .i64 0, .bool false, .int .i64 0, .int .i64 0, .int .i64 0, .slice none 0 0]) (by kernel_rfl) #[.int .i64 0, .int .i64 0, .int .i64 0, .int .i64 0, .int .i64 0, .int .i64 0, .int .i64 0, .bool false, .int .i64 0, .int .i64 0, .int .i64 0, .slice none 0 0] rfl ?_; intro w2 R2 e2 g2 b2; have qR2_R1 : R1 < R2 := Nat.lt_of_lt_of_eq (HL1.out.lt (.head _)) e2; have HL2 := Lib.hid (show Lg w w2 [(R2, (qE4), 40), (R1, (qE3 n0 n1 n2 n3 n4 n5 n6 n7 ad st lf a N cap), 40)] [] from HL1.out.box e2 g2 b2); clear g2 b2 e2)
  | (refine wpList_load_one rfl 24 (.tmp 3) rfl (R1) 11 rfl 40 (qE3 n0 n1 n2 n3 n4 n5 n6 n7 ad st lf a N cap) (0, 0) (HL2.out.get qEm1) (.slice a N cap) rfl _ Tryz.underlying24 rfl (by kernel_rfl) ?_))
 refine ((HC _ (HI.out.kept HL2.out.below)).out).mono ?_
 rintro e w3 ⟨a4, c4, rfl, hn, h⟩
 obtain ⟨L3, e3⟩ : ∃ x, w2.heap.size = x := ⟨_, rfl⟩
 obtain ⟨H3, f3⟩ : ∃ x, w3.heap.size = x := ⟨_, rfl⟩
 have qL3_R2 : R2 < L3 := Nat.lt_of_lt_of_eq (HL2.out.lt (.head _)) e3
 have qL3_R1 : R1 < L3 := Nat.lt_of_lt_of_eq (HL2.out.lt qEm1) e3
 have qH3_L3 : L3 ≤ H3 := (by rw [← e3, ← f3]; exact h.size)
 have HL3 := Lib.hid (show Lg w w3 [(R2, (qE4), 40), (R1, (qE3 n0 n1 n2 n3 n4 n5 n6 n7 ad st lf a N cap), 40)] [(L3, H3, fun W => RsNew nC 1 2 L3 H3 W a4 l)] from HL2.out.made e3 f3 h (by rw [← e3, ← f3]; exact hn.solid))
 clear h hn e3 f3
 go_wp2_with (first
  | (refine wpList_put_at rfl 24 (.tmp 6) (.tmp 5) rfl rfl (R1) 11 rfl (.slice a4 N c4) rfl #[.slice a4 N c4] rfl 40 (qE3 n0 n1 n2 n3 n4 n5 n6 n7 ad st lf a N cap) (qE3 n0 n1 n2 n3 n4 n5 n6 n7 ad st lf a4 N c4) (HL3.out.get qEm1) (by kernel_rfl) (by kernel_rfl) (by kernel_rfl) (by kernel_rfl) ?_; intro w4 g4 o4; have HL4 := Lib.hid (show Lg w w4 [(R2, (qE4), 40), (R1, (qE3 n0 n1 n2 n3 n4 n5 n6 n7 ad st lf a4 N c4), 40)] [(L3, H3, fun W => RsNew nC 1 2 L3 H3 W a4 l)] from HL3.out.put 1 rfl g4 o4 (List.forall_mem_cons.2 ⟨Nat.ne_of_gt qR2_R1, (fun _ h => nomatch h)⟩) (List.forall_mem_cons.2 ⟨.inr qL3_R1, (fun _ h => nomatch h)⟩) rfl); clear g4 o4)
  | (refine wpList_load_at rfl 40 (.tmp 1) rfl (R1) 0 rfl 40 (qE3 n0 n1 n2 n3 n4 n5 n6 n7 ad st lf a4 N c4) (0, 0) (HL4.out.get qEm1) [.int .i64 n0, .int .i64 n1, .int .i64 n2, .int .i64 n3, .int .i64 n4, .int .i64 n5, .int .i64 n6, .bool n7, .int .i64 ad, .int .i64 st, .int .i64 lf, .slice a4 N c4] rfl _ Tryz.underlying40 rfl (by kernel_rfl) ?_)
  | (refine wpList_put_at rfl 40 (.tmp 2) (.tmp 7) rfl rfl (R2) 0 rfl _ rfl #[.int .i64 n0, .int .i64 n1, .int .i64 n2, .int .i64 n3, .int .i64 n4, .int .i64 n5, .int .i64 n6, .bool n7, .int .i64 ad, .int .i64 st, .int .i64 lf, .slice a4 N c4] rfl 40 (qE4) (qE3 n0 n1 n2 n3 n4 n5 n6 n7 ad st lf a4 N c4) (HL4.out.get (.head _)) (by kernel_rfl) (by kernel_rfl) (by kernel_rfl) (by kernel_rfl) ?_; intro w5 g5 o5; have HL5 := Lib.hid (show Lg w w5 [(R2, (qE3 n0 n1 n2 n3 n4 n5 n6 n7 ad st lf a4 N c4), 40), (R1, (qE3 n0 n1 n2 n3 n4 n5 n6 n7 ad st lf a4 N c4), 40)] [(L3, H3, fun W => RsNew nC 1 2 L3 H3 W a4 l)] from HL4.out.put 0 rfl g5 o5 (List.forall_mem_cons.2 ⟨Nat.ne_of_lt qR2_R1, (fun _ h => nomatch h)⟩) (List.forall_mem_cons.2 ⟨.inr qL3_R2, (fun _ h => nomatch h)⟩) rfl); clear g5 o5))
 exact bodyPost_ret (results_cell_row (p := 2) (ty := 40) (by kernel_rfl) _ _ (R2) 40 _ (0, 0) _ rfl (HL5.out.get (.head _)) Tryz.underlying40 rfl (by kernel_rfl)) rfl ⟨a4, c4, rfl, (HL5.out.at (.head _)).wide (HL5.out.lo (.head _)) (HL5.out.hi (.head _)).2, HL5.out.below⟩
end Go.Proofs.YtioldepgoodipaaGreat
namespace Go.Proofs.YtioldepgoodipaaGreat
open Go.RowKit
set_option linter.unusedVariables false

set_option maxRecDepth 100000 in
set_option maxHeartbeats 8000000 in
theorem freshTable_new (a : Option Addr) (cap : Nat) (l : List Se) (w : World) (h : RsIn seL 7 w a l) (hs : ∀ i, i < l.length → (seAt l i).dt.size ≤ 1000000) (hlen : l.length ≤ 1048576) :
  Calls Tryz.prog 141 #[.slice a l.length cap] w fun e w' => ∃ a', e = .returned (.slice a' l.length l.length) ∧ RsNew seL 7 159 w.heap.size w'.heap.size w' a' l ∧ Below w.heap.size w w' := by
 obtain ⟨i0, hi, hz0, hz1, hz2⟩ := info_parts SesTo.info
 obtain ⟨N, hN⟩ : ∃ N, l.length = N := ⟨_, rfl⟩
 have HN := Lib.hid hN
 have HH := Lib.hid h
 have HSm := Lib.hid hs
 rw [hN] at hlen ⊢
 clear hN h hs
 go_enter Tryz.func141, Tryz.ntmps141
 go_wp2_with (at_make; refine wpList_make_full _ rfl (.tmp 7) (.tmp 7) 44 rfl w.heap.size 159 i0 (.agg #[.int .i64 0, .int .i64 0, .int .i64 0, .int .i64 0, .int .i64 0, .string ByteArray.empty, .int .i64 0]) 7 Tryz.underlying44 hi hz0 hz1 .i64 .i64 (N : Int) (N : Int) N (by rfl) (by rfl) (by omega) (by omega) (by rw [hz2]; omega) (by unfold maxLen; omega) (Nat.le_refl _) ?_; intro w1 hown hgrow)
 have hb1 : Below w.heap.size w w1 := (Below.refl _ _).grown hgrow (Nat.le_refl _) (fun _ h => by cases h)
 rcases Nat.eq_zero_or_pos N with hN0 | hN0
 ·subst hN0
  have hl : l = [] := List.eq_nil_of_length_eq_zero HN.out
  clear hown hgrow
  refine wp_loop_rounds 1 ?_
  rw [rounds_succ]; go_wp2
  go_ret
  exact ⟨_, rfl, .inl (by first | exact hl | rfl), hb1⟩
 obtain ⟨row0, hg0, hs0⟩ : ∃ row0, w1.heap[w.heap.size]? = some (.cells row0 159 (0, 0)) ∧ row0.size = N * 7 := by
  rcases hown.2 with ⟨h', _⟩ | ⟨g', cap', cur, h', _, hg, _, _, hc, _⟩
  ·simp at h'
  ·simp only [Value.slice.injEq, Option.some.injEq, Addr.mk.injEq, and_true, true_and] at h'
   obtain ⟨rfl, rfl⟩ := h'
   exact ⟨cur, hg, hc⟩
 have HG0 := Lib.hid hg0
 have HS0 := Lib.hid hs0
 clear hown hgrow hg0 hs0
 obtain ⟨b, o, rfl, hlt, hc⟩ := HH.out.at (by have := HN.out; omega)
 have HI := Lib.hid hc
 clear hc HH
 go_loopw [4, 5, 11] (fun _ _ i wr => ∃ (k : Nat) (row : Array Value), i = .int .i64 (k : Int) ∧ k ≤ N ∧ Below w.heap.size w wr ∧ wr.heap[w.heap.size]? = some (.cells row 159 (0, 0)) ∧ row.size = N * 7 ∧
  (∀ j, j < k → ∀ c v, (seL (seAt l j))[c]? = some v → row[j * 7 + c]? = some v)) (fun _ _ i _ => N - (intOf i).toNat)
 case atStart => exact ⟨0, row0, rfl, by omega, hb1, HG0.out, HS0.out, fun j hj => absurd hj (by omega)⟩
 case round =>
  obtain ⟨k, row, rfl, hk, hb, hgr, hrs, hdone⟩ := hrel
  have HD := Lib.hid hdone
  have HR := Lib.hid hgr
  have HRs := Lib.hid hrs
  have hsz : w.heap.size < wr.heap.size := (Array.getElem?_eq_some_iff.1 hgr).1
  clear hdone hgr hrs
  by_cases hkn : k < N
  ·have hkl : k < l.length := by have := HN.out; omega
   have hi1 : (0 : Int) ≤ (k : Int) := by omega
   have hi2 : (k : Int) < (N : Int) := by omega
   have HCs := Lib.hid (fun j v hv => (hb.cell (p := ⟨b, _, none⟩) hlt).trans (HI.out k _ (seAt_some hkl) j v hv))
   have HSk := Lib.hid (HSm.out k hkl)
   obtain ⟨x, hx⟩ : ∃ x, seAt l k = x := ⟨_, rfl⟩
   rw [hx] at HCs HSk
   have HX := Lib.hid hx
   clear hx
   obtain ⟨src, pgn, sq, nx, sz, dt, ag⟩ := x
   unfold seL at HCs
   dsimp only at HCs HSk
   go_wp2_with (first
    | (refine wpList_load_cells rfl 159 (.tmp 14) rfl b (o + k * 7) rfl [.int .i64 src, .int .i64 pgn, .int .i64 sq, .int .i64 nx, .int .i64 sz, .string dt, .int .i64 ag] HCs.out _ Tryz.underlying159 rfl (by kernel_rfl) ?_)
    | (refine wpList_alloc_h rfl 159 rfl (.agg #[.int .i64 0, .int .i64 0, .int .i64 0, .int .i64 0, .int .i64 0, .string ByteArray.empty, .int .i64 0]) (by kernel_rfl) #[.int .i64 0, .int .i64 0, .int .i64 0, .int .i64 0, .int .i64 0, .string ByteArray.empty, .int .i64 0] rfl ?_; intro v1 SR1 e1 g1 b1; have HM1 := Lib.hid (show Lg wr v1 [(SR1, (qE5), 159)] [] from (Lg.first wr).box e1 g1 b1); clear g1 b1 e1)
    | (refine wpList_put_at rfl 159 (.tmp 5) (.tmp 15) rfl rfl (SR1) 0 rfl _ rfl #[.int .i64 src, .int .i64 pgn, .int .i64 sq, .int .i64 nx, .int .i64 sz, .string dt, .int .i64 ag] rfl 159 (qE5) #[.int .i64 src, .int .i64 pgn, .int .i64 sq, .int .i64 nx, .int .i64 sz, .string dt, .int .i64 ag] (HM1.out.get (.head _)) (by kernel_rfl) (by kernel_rfl) (by kernel_rfl) (by kernel_rfl) ?_; intro v2 g2 o2; have HM2 := Lib.hid (show Lg wr v2 [(SR1, #[.int .i64 src, .int .i64 pgn, .int .i64 sq, .int .i64 nx, .int .i64 sz, .string dt, .int .i64 ag], 159)] [] from HM1.out.put 0 rfl g2 o2 (fun _ h => nomatch h) (fun _ h => nomatch h) rfl); clear g2 o2)
    | (refine wpList_load_at rfl 159 (.tmp 5) rfl (SR1) 0 rfl 159 #[.int .i64 src, .int .i64 pgn, .int .i64 sq, .int .i64 nx, .int .i64 sz, .string dt, .int .i64 ag] (0, 0) (HM2.out.get (.head _)) [.int .i64 src, .int .i64 pgn, .int .i64 sq, .int .i64 nx, .int .i64 sz, .string dt, .int .i64 ag] rfl _ Tryz.underlying159 rfl (by kernel_rfl) ?_))
   refine (freshSession_any ⟨src, pgn, sq, nx, sz, dt, ag⟩ _ HSk.out).mono ?_
   rintro e v3 ⟨rfl, h⟩
   have HM3 := Lib.hid (show Lg wr v3 [(SR1, #[.int .i64 src, .int .i64 pgn, .int .i64 sq, .int .i64 nx, .int .i64 sz, .string dt, .int .i64 ag], 159)] [] from HM2.out.kept h)
   clear h
   have hg2 := (HM3.out.below.block _ hsz).trans HR.out
   have HG2 := Lib.hid hg2
   clear hg2
   go_wp2_with (refine wpList_put_at rfl 159 (.tmp 20) (.tmp 19) rfl rfl (w.heap.size) (k * 7) rfl (.agg #[.int .i64 src, .int .i64 pgn, .int .i64 sq, .int .i64 nx, .int .i64 sz, .string dt, .int .i64 ag]) rfl #[.int .i64 src, .int .i64 pgn, .int .i64 sq, .int .i64 nx, .int .i64 sz, .string dt, .int .i64 ag] rfl 159 row _ HG2.out (by kernel_rfl) (Nat.ble_eq_true_of_le (by show k * 7 + 7 ≤ row.size; rw [HRs.out]; omega)) (by rfl) rfl ?_; intro u3 g3 o3; have HG3 := Lib.hid g3; have HO3 := Lib.hid o3; clear g3 o3)
   go_roundw
   case rel =>
    refine ⟨k + 1, _, by go_num, by omega, ?_, HG3.out, by rw [setAll_size, HRs.out], fun j hj c v hv => ?_⟩
    ·exact HO3.out.below (hb.trans (HM3.out.below.mono (Nat.le_of_lt hsz))) (Nat.le_refl _) (Nat.le_trans (Nat.le_of_lt hsz) HM3.out.below.size)
    ·have hc7 : c < 7 := by
      have := (List.getElem?_eq_some_iff.1 hv).1
      rwa [seL_len] at this
     rcases Nat.lt_or_ge j k with h | h
     ·rw [setAll_off _ _ _ _ (.inl (by omega))]
      exact HD.out j h c v hv
     ·obtain rfl : j = k := by omega
      rw [HX.out] at hv
      exact setAll_at _ _ _ _ _ (by show j * 7 + 7 ≤ row.size; rw [HRs.out]; omega) hv
   case measure => simp [intOf]; omega
  ·have hge : N ≤ k := by omega
   go_wp2_with fail
   go_ret
   exact ⟨_, rfl, .inr ⟨w.heap.size, 0, row, rfl, Nat.le_refl _, hsz, HR.out, by rw [HRs.out, HN.out]; omega, fun i x hx c v hv => by
    have hi : i < l.length := (List.getElem?_eq_some_iff.1 hx).1
    rw [seAt_some hi] at hx
    obtain rfl := Option.some.inj hx
    rw [Nat.zero_add]
    exact HD.out i (by have := HN.out; omega) c v hv⟩, hb⟩
end Go.Proofs.YtioldepgoodipaaGreat
namespace Go.Proofs.YtioldepgoodipaaGreat
open Go.RowKit
set_option linter.unusedVariables false

theorem freeOf_get {ops : Array Oper} {T : Nat → World → Value → Prop} {a0 : Act} {o : Oper} {a : Act} {w : World} (hK : Known ops T a0 o a w) (k s : Nat) {oj : Oper} (he : o.after.any (fun e => (e.on == k) && Region.binds .any e) = true) (hoj : ops[k]? = some oj) (hd : oj.dst = some s)
  (hs : Nat.ble (s + 1) a0.tmps.size = true) : T k w (a.eval (.tmp s)) := by
 obtain ⟨e, he1, he2⟩ := Array.any_eq_true'.1 he
 simp only [Bool.and_eq_true] at he2
 have hk : e.on = k := by simpa using he2.1
 subst hk
 exact hK.dep e he1 he2.2 oj s hoj hd (Nat.le_of_ble_eq_true hs)
section
variable {P : Program} {o : Oper} {a : Act} {w : World} {K : Act → World → Prop} {Q : Exit → Act → World → Prop}
theorem ob_put_mid (ty : TypeId) (x y : Operand) (ho : o.op = .store ty x y) (g k : Nat) (hx : a.eval x = .pointer (some ⟨g, k, none⟩)) (v : Value) (hy : a.eval y = v) (cells : Array Value) (hcs : v.cells = cells)
  (t : TypeId) (old new : Array Value) (hg : w.heap[g]? = some (.cells old t (0, 0))) (hi : (P.info? ty).map (·.size) = some cells.size) (hk : k + cells.size ≤ old.size) (h1 : cells.toList.all (·.oneCell') = true) (hnew : setAll old k cells.toList = new)
  (h : ∀ w', w'.heap[g]? = some (.cells new t (0, 0)) → Out g (g + 1) w w' → K (a.put o.dst undef) w') : o.wp P a w K Q := by
 have ht : w.there g k cells.size := fun j hj => by
  refine ⟨?_, frozen_of_row w g (k + j) old t hg⟩
  rw [cell_of_row w g (k + j) old t (0, 0) hg, Array.getElem?_eq_getElem (by omega)]
  rfl
 have hrun := run_storeCells_cells (P := P) g k cells.toList 0 w (fun j hj => by simpa using (ht j (by simpa using hj)).1) (fun j hj => by simpa using (ht j (by simpa using hj)).2)
  (fun v hv => List.all_eq_true.1 h1 v hv)
 have hrun2 : (storeVar ty ⟨g, k, none⟩ v).run P w = .ok () (w.setCells g k cells.toList) := by
  cases hq : P.info? ty with
  | none => simp [hq] at hi
  | some i =>
   have hs : cells.size = i.size := by simp [hq] at hi; omega
   simp only [Nat.add_zero] at hrun
   simp [storeVar, sizeOf, typeInfo, hq, hcs, hs, hrun]
 refine ob_skip (w' := w.setCells g k cells.toList) ?_ (h _ (hnew ▸ heap_setCells g t cells.toList w k old hg) (out_setCells g cells.toList w k))
 unfold execOp
 simp only [ho, hx, hy, Instr.storeAt, Instr.sureAddr, Sem.run_bind, Sem.run_pure, Result.andThen_ok, hrun2]
end
theorem setAll_twice {row new : Array Value} {k : Nat} {x y z : Value} (h : setAll row k [x, y, z] = new) (hk : k + 3 ≤ row.size) : setAll new k [x, y, z] = new := by
 apply Array.ext_getElem?
 intro i
 by_cases hi : i < k ∨ k + 3 ≤ i
 ·rw [setAll_off _ _ _ _ (by simpa using hi)]
 ·have hn : k + 3 ≤ new.size := by rw [← h, setAll_size]; exact hk
  obtain ⟨j, rfl⟩ : ∃ j, i = k + j := ⟨i - k, by omega⟩
  have hj : j < 3 := by omega
  have h1 := setAll_at [x, y, z] new k j _ (by simpa using hn) (List.getElem?_eq_getElem (by simpa using hj))
  have h2 := setAll_at [x, y, z] row k j _ (by simpa using hk) (List.getElem?_eq_getElem (by simpa using hj))
  rw [h] at h2
  rw [h1, h2]
structure FG (w : World) (SR G : Nat) (bx old new : Obj) (W : World) : Prop where
 below : Below w.heap.size w W
 box : W.heap[SR]? = some bx
 row : W.heap[G]? = some old ∨ W.heap[G]? = some new
def FR (G : Nat) (new : Obj) (W W' : World) : Prop := W.heap[G]? = some new → W'.heap[G]? = some new
def TFG (SR G k N : Nat) (s p : Int) (dt : ByteArray) (new : Obj) : Nat → World → Value → Prop
 | 0, _, v => v = .slice (some ⟨G, 0, none⟩) N N
 | 1, _, v => v = .int .i64 (k : Int)
 | 2, _, v => v = .pointer (some ⟨SR, 0, none⟩)
 | 3, _, v => v = .int .i64 s
 | 4, _, v => v = .pointer (some ⟨SR, 1, none⟩)
 | 5, _, v => v = .int .i64 p
 | 6, _, v => v = .pointer (some ⟨SR, 2, none⟩)
 | 7, _, v => v = .string dt
 | 8, _, v => v = .string dt
 | 9, _, v => v = .agg #[.int .i64 s, .int .i64 p, .string dt]
 | 10, _, v => v = .pointer (some ⟨G, k * 3, none⟩)
 | 11, W, _ => W.heap[G]? = some new
 | _ + 12, _, _ => True
theorem TFG.kept {SR G k N : Nat} {s p : Int} {dt : ByteArray} {new : Obj} : ∀ j w w' v, FR G new w w' → TFG SR G k N s p dt new j w v → TFG SR G k N s p dt new j w' v
 | 11, _, _, _, hR, h => hR h
 | 0, _, _, _, _, h | 1, _, _, _, _, h | 2, _, _, _, _, h | 3, _, _, _, _, h | 4, _, _, _, _, h | 5, _, _, _, _, h | 6, _, _, _, _, h | 7, _, _, _, _, h | 8, _, _, _, _, h | 9, _, _, _, _, h | 10, _, _, _, _, h => h
 | _ + 12, _, _, _, _, h => h
set_option maxRecDepth 100000 in
set_option maxHeartbeats 8000000 in
theorem freshGot_new (a : Option Addr) (cap : Nat) (l : List Gt) (w : World) (h : RsIn gtL 3 w a l) (hs : ∀ i, i < l.length → (gtAt l i).dt.size ≤ 1000000) (hlen : l.length ≤ 1048576) :
  Calls Tryz.prog 143 #[.slice a l.length cap] w fun e w' => ∃ a', e = .returned (.slice a' l.length l.length) ∧ RsNew gtL 3 144 w.heap.size w'.heap.size w' a' l ∧ Below w.heap.size w w' := by
 obtain ⟨i0, hi, hz0, hz1, hz2⟩ := info_parts GotTo.info
 obtain ⟨N, hN⟩ : ∃ N, l.length = N := ⟨_, rfl⟩
 have HN := Lib.hid hN
 have HH := Lib.hid h
 have HSm := Lib.hid hs
 rw [hN] at hlen ⊢
 clear hN h hs
 go_enter Tryz.func143, Tryz.ntmps143
 go_wp2_with (at_make; refine wpList_make_full _ rfl (.tmp 7) (.tmp 7) 46 rfl w.heap.size 144 i0 (.agg #[.int .i64 0, .int .i64 0, .string ByteArray.empty]) 3 Tryz.underlying46 hi hz0 hz1 .i64 .i64 (N : Int) (N : Int) N (by rfl) (by rfl) (by omega) (by omega) (by rw [hz2]; omega) (by unfold maxLen; omega) (Nat.le_refl _) ?_; intro w1 hown hgrow)
 have hb1 : Below w.heap.size w w1 := (Below.refl _ _).grown hgrow (Nat.le_refl _) (fun _ h => by cases h)
 rcases Nat.eq_zero_or_pos N with hN0 | hN0
 ·subst hN0
  have hl : l = [] := List.eq_nil_of_length_eq_zero HN.out
  clear hown hgrow
  refine wp_loop_rounds 1 ?_
  rw [rounds_succ]; go_wp2
  go_ret
  exact ⟨_, rfl, .inl (by first | exact hl | rfl), hb1⟩
 obtain ⟨row0, hg0, hs0⟩ : ∃ row0, w1.heap[w.heap.size]? = some (.cells row0 144 (0, 0)) ∧ row0.size = N * 3 := by
  rcases hown.2 with ⟨h', _⟩ | ⟨g', cap', cur, h', _, hg, _, _, hc, _⟩
  ·simp at h'
  ·simp only [Value.slice.injEq, Option.some.injEq, Addr.mk.injEq, and_true, true_and] at h'
   obtain ⟨rfl, rfl⟩ := h'
   exact ⟨cur, hg, hc⟩
 have HG0 := Lib.hid hg0
 have HS0 := Lib.hid hs0
 clear hown hgrow hg0 hs0
 obtain ⟨b, o, rfl, hlt, hc⟩ := HH.out.at (by have := HN.out; omega)
 have HI := Lib.hid hc
 clear hc HH
 go_loopw [4, 5, 11] (fun _ _ i wr => ∃ (k : Nat) (row : Array Value), i = .int .i64 (k : Int) ∧ k ≤ N ∧ Below w.heap.size w wr ∧ wr.heap[w.heap.size]? = some (.cells row 144 (0, 0)) ∧ row.size = N * 3 ∧
  (∀ j, j < k → ∀ c v, (gtL (gtAt l j))[c]? = some v → row[j * 3 + c]? = some v)) (fun _ _ i _ => N - (intOf i).toNat)
 case atStart => exact ⟨0, row0, rfl, by omega, hb1, HG0.out, HS0.out, fun j hj => absurd hj (by omega)⟩
 case round =>
  obtain ⟨k, row, rfl, hk, hb, hgr, hrs, hdone⟩ := hrel
  have HD := Lib.hid hdone
  have HR := Lib.hid hgr
  have HRs := Lib.hid hrs
  have hsz : w.heap.size < wr.heap.size := (Array.getElem?_eq_some_iff.1 hgr).1
  clear hdone hgr hrs
  by_cases hkn : k < N
  ·have hkl : k < l.length := by have := HN.out; omega
   have hi1 : (0 : Int) ≤ (k : Int) := by omega
   have hi2 : (k : Int) < (N : Int) := by omega
   have HCs := Lib.hid (fun j v hv => (hb.cell (p := ⟨b, _, none⟩) hlt).trans (HI.out k _ (gtAt_some hkl) j v hv))
   have HSk := Lib.hid (HSm.out k hkl)
   obtain ⟨x, hx⟩ : ∃ x, gtAt l k = x := ⟨_, rfl⟩
   rw [hx] at HCs HSk
   have HX := Lib.hid hx
   clear hx
   obtain ⟨s, p, dt⟩ := x
   unfold gtL at HCs
   dsimp only at HCs HSk
   go_wp2_with (first
    | (refine wpList_load_cells rfl 144 (.tmp 14) rfl b (o + k * 3) rfl [.int .i64 s, .int .i64 p, .string dt] HCs.out _ Tryz.underlying144 rfl (by kernel_rfl) ?_)
    | (refine wpList_alloc_h rfl 144 rfl (.agg #[.int .i64 0, .int .i64 0, .string ByteArray.empty]) (by kernel_rfl) #[.int .i64 0, .int .i64 0, .string ByteArray.empty] rfl ?_; intro v1 SR1 e1 g1 b1; have HM1 := Lib.hid (show Lg wr v1 [(SR1, #[.int .i64 0, .int .i64 0, .string ByteArray.empty], 144)] [] from (Lg.first wr).box e1 g1 b1); clear g1 b1 e1)
    | (refine wpList_put_at rfl 144 (.tmp 5) (.tmp 15) rfl rfl (SR1) 0 rfl (.agg #[.int .i64 s, .int .i64 p, .string dt]) rfl #[.int .i64 s, .int .i64 p, .string dt] rfl 144 #[.int .i64 0, .int .i64 0, .string ByteArray.empty] #[.int .i64 s, .int .i64 p, .string dt] (HM1.out.get (.head _)) (by kernel_rfl) (by kernel_rfl) (by kernel_rfl) (by kernel_rfl) ?_; intro v2 g2 o2; have HM2 := Lib.hid (show Lg wr v2 [(SR1, #[.int .i64 s, .int .i64 p, .string dt], 144)] [] from HM1.out.put 0 rfl g2 o2 (fun _ h => nomatch h) (fun _ h => nomatch h) rfl); clear g2 o2))
   have hg2 := (HM2.out.below.block _ hsz).trans HR.out
   have HBx := Lib.hid (HM2.out.get (.head _))
   have hSRl := HM2.out.ge (.head _)
   have HBl := Lib.hid (hb.trans (HM2.out.below.mono (Nat.le_of_lt hsz)))
   have hlt2 : w.heap.size < v2.heap.size := Nat.lt_of_lt_of_le hsz HM2.out.below.size
   obtain ⟨new, hnew⟩ : ∃ new, setAll row (k * 3) [.int .i64 s, .int .i64 p, .string dt] = new := ⟨_, rfl⟩
   have HNw := Lib.hid hnew
   have HG2 := Lib.hid hg2
   have hfit : k * 3 + 3 ≤ row.size := by rw [HRs.out]; omega
   have k0 : (0 : Int) ≤ (k : Int) := by omega
   have k1 : (k : Int) < (N : Int) := by omega
   clear hg2 hnew
   go_wp2_with fail
   refine wp_region_anyord (FG w SR1 w.heap.size (.cells #[.int .i64 s, .int .i64 p, .string dt] 144 (0, 0)) (.cells row 144 (0, 0)) (.cells new 144 (0, 0))) (FR w.heap.size (.cells new 144 (0, 0))) (TFG SR1 w.heap.size k N s p dt (.cells new 144 (0, 0))) (by kernel_rfl) (by kernel_rfl) (by kernel_rfl) TFG.kept ?_ ?_ ?_
   ·exact ⟨HBl.out.drew, HBx.out, .inl HG2.out⟩
   ·refine ⟨⟨rfl, fun a1 W hC hK => ?_⟩, ⟨rfl, fun a1 W hC hK => ?_⟩, ⟨rfl, fun a1 W hC hK => ?_⟩, ⟨rfl, fun a1 W hC hK => ?_⟩, ⟨rfl, fun a1 W hC hK => ?_⟩, ⟨rfl, fun a1 W hC hK => ?_⟩, ⟨rfl, fun a1 W hC hK => ?_⟩, ⟨rfl, fun a1 W hC hK => ?_⟩, ⟨rfl, fun a1 W hC hK => ?_⟩, ⟨rfl, fun a1 W hC hK => ?_⟩, ⟨rfl, fun a1 W hC hK => ?_⟩, ⟨rfl, fun a1 W hC hK => ?_⟩, trivial⟩
    ·exact ob_move rfl ⟨_, rfl, hC, id, (hK.old 3 (by kernel_rfl)).trans rfl⟩
    ·exact ob_move rfl ⟨_, rfl, hC, id, (hK.old 4 (by kernel_rfl)).trans rfl⟩
    ·have e1 : a1.eval (.tmp 5) = .pointer (some ⟨SR1, 0, none⟩) := (hK.old 5 (by kernel_rfl)).trans rfl
     have c0 := cell_of_row W SR1 0 _ _ (0, 0) hC.box
     simp only [Act.eval, Array.getD_eq_getD_getElem?] at e1
     exact ob_value (v := .pointer (some ⟨SR1, 0, none⟩)) (w' := W) (by simp [execOp, go_sem, e1]) ⟨_, rfl, hC, id, rfl⟩
    ·have e1 : a1.eval (.tmp 18) = .pointer (some ⟨SR1, 0, none⟩) := freeOf_get hK 2 18 (by kernel_rfl) rfl rfl rfl
     have c0 := cell_of_row W SR1 0 _ _ (0, 0) hC.box
     simp only [Act.eval, Array.getD_eq_getD_getElem?] at e1
     exact ob_value (v := .int .i64 s) (w' := W) (by simp [execOp, go_sem, e1, c0]) ⟨_, rfl, hC, id, rfl⟩
    ·have e1 : a1.eval (.tmp 5) = .pointer (some ⟨SR1, 0, none⟩) := (hK.old 5 (by kernel_rfl)).trans rfl
     have c0 := cell_of_row W SR1 0 _ _ (0, 0) hC.box
     simp only [Act.eval, Array.getD_eq_getD_getElem?] at e1
     exact ob_value (v := .pointer (some ⟨SR1, 1, none⟩)) (w' := W) (by simp [execOp, go_sem, e1]) ⟨_, rfl, hC, id, rfl⟩
    ·have e1 : a1.eval (.tmp 20) = .pointer (some ⟨SR1, 1, none⟩) := freeOf_get hK 4 20 (by kernel_rfl) rfl rfl rfl
     have c0 := cell_of_row W SR1 1 _ _ (0, 0) hC.box
     simp only [Act.eval, Array.getD_eq_getD_getElem?] at e1
     exact ob_value (v := .int .i64 p) (w' := W) (by simp [execOp, go_sem, e1, c0]) ⟨_, rfl, hC, id, rfl⟩
    ·have e1 : a1.eval (.tmp 5) = .pointer (some ⟨SR1, 0, none⟩) := (hK.old 5 (by kernel_rfl)).trans rfl
     have c0 := cell_of_row W SR1 0 _ _ (0, 0) hC.box
     simp only [Act.eval, Array.getD_eq_getD_getElem?] at e1
     exact ob_value (v := .pointer (some ⟨SR1, 2, none⟩)) (w' := W) (by simp [execOp, go_sem, e1]) ⟨_, rfl, hC, id, rfl⟩
    ·have e1 : a1.eval (.tmp 22) = .pointer (some ⟨SR1, 2, none⟩) := freeOf_get hK 6 22 (by kernel_rfl) rfl rfl rfl
     have c0 := cell_of_row W SR1 2 _ _ (0, 0) hC.box
     simp only [Act.eval, Array.getD_eq_getD_getElem?] at e1
     exact ob_value (v := .string dt) (w' := W) (by simp [execOp, go_sem, e1, c0]) ⟨_, rfl, hC, id, rfl⟩
    ·have e1 : a1.eval (.tmp 23) = .string dt := freeOf_get hK 7 23 (by kernel_rfl) rfl rfl rfl
     simp only [Act.eval, Array.getD_eq_getD_getElem?] at e1
     refine ob_call rfl Tryz.func170 (by kernel_rfl) (by kernel_rfl) (vals := #[.string ByteArray.empty, .string dt]) (by simp [Act.eval, e1]; rfl) ?_
     refine (joinedE_any dt W HSk.out).mono ?_
     rintro e W' ⟨rfl, hb'⟩
     exact ⟨_, rfl, _, rfl, ⟨hC.below.trans (hb'.mono hC.below.size), (hb'.block _ (Array.getElem?_eq_some_iff.1 hC.box).1).trans hC.box, hC.row.imp (fun q => (hb'.block _ (Array.getElem?_eq_some_iff.1 q).1).trans q) (fun q => (hb'.block _ (Array.getElem?_eq_some_iff.1 q).1).trans q)⟩, fun q => (hb'.block _ (Array.getElem?_eq_some_iff.1 q).1).trans q, rfl⟩
    ·have e1 : a1.eval (.tmp 19) = .int .i64 s := freeOf_get hK 3 19 (by kernel_rfl) rfl rfl rfl
     have e2 : a1.eval (.tmp 21) = .int .i64 p := freeOf_get hK 5 21 (by kernel_rfl) rfl rfl rfl
     have e3 : a1.eval (.tmp 24) = .string dt := freeOf_get hK 8 24 (by kernel_rfl) rfl rfl rfl
     simp only [Act.eval, Array.getD_eq_getD_getElem?] at e1 e2 e3
     exact ob_value (v := .agg #[.int .i64 s, .int .i64 p, .string dt]) (w' := W) (by simp [execOp, go_sem, e1, e2, e3]) ⟨_, rfl, hC, id, rfl⟩
    ·have e1 : a1.eval (.tmp 16) = .slice (some ⟨w.heap.size, 0, none⟩) N N := freeOf_get hK 0 16 (by kernel_rfl) rfl rfl rfl
     have e2 : a1.eval (.tmp 17) = .int .i64 (k : Int) := freeOf_get hK 1 17 (by kernel_rfl) rfl rfl rfl
     simp only [Act.eval, Array.getD_eq_getD_getElem?] at e1 e2
     exact ob_value (v := .pointer (some ⟨w.heap.size, k * 3, none⟩)) (w' := W) (by simp [execOp, go_sem, e1, e2, k0, k1]) ⟨_, rfl, hC, id, rfl⟩
    ·have e1 : a1.eval (.tmp 26) = .pointer (some ⟨w.heap.size, k * 3, none⟩) := freeOf_get hK 10 26 (by kernel_rfl) rfl rfl rfl
     have e2 : a1.eval (.tmp 25) = .agg #[.int .i64 s, .int .i64 p, .string dt] := freeOf_get hK 9 25 (by kernel_rfl) rfl rfl rfl
     have hfin : ∀ w', w'.heap[w.heap.size]? = some (.cells new 144 (0, 0)) → Out w.heap.size (w.heap.size + 1) W w' → ∃ v, a1.put none undef = a1.put none v ∧ FG w SR1 w.heap.size (.cells #[.int .i64 s, .int .i64 p, .string dt] 144 (0, 0)) (.cells row 144 (0, 0)) (.cells new 144 (0, 0)) w' ∧ FR w.heap.size (.cells new 144 (0, 0)) W w' ∧ TFG SR1 w.heap.size k N s p dt (.cells new 144 (0, 0)) 11 w' v := fun w' hg ho =>
      ⟨undef, rfl, ⟨ho.below hC.below (Nat.le_refl _) hC.below.size, (ho.block _ (Array.getElem?_eq_some_iff.1 hC.box).1 (by omega)).trans hC.box, .inr hg⟩, fun _ => hg, hg⟩
     rcases hC.row with hq | hq
     ·exact ob_put_mid 144 (.tmp 26) (.tmp 25) rfl w.heap.size (k * 3) e1 _ e2 _ rfl 144 _ new hq (by kernel_rfl) hfit (by kernel_rfl) HNw.out hfin
     ·exact ob_put_mid 144 (.tmp 26) (.tmp 25) rfl w.heap.size (k * 3) e1 _ e2 _ rfl 144 _ new hq (by kernel_rfl) (by rw [← HNw.out, setAll_size]; exact hfit) (by kernel_rfl) (setAll_twice HNw.out hfit) hfin
   ·intro vs W hC hT
    have hfinal : W.heap[w.heap.size]? = some (.cells new 144 (0, 0)) := hT 11 (by decide)
    simp only [fillL, if_true, Act.put, List.setIfInBounds_toArray, List.set_cons_zero, List.set_cons_succ]
    have HF := Lib.hid hfinal
    have HBf := Lib.hid hC.below
    clear hC hT hfinal
    go_wp2_with fail
    go_roundw
    case rel =>
     refine ⟨k + 1, new, by go_num, by omega, HBf.out, HF.out, by rw [← HNw.out, setAll_size, HRs.out], fun j hj c v hv => ?_⟩
     have hc3 : c < 3 := by
      have := (List.getElem?_eq_some_iff.1 hv).1
      rwa [gtL_len] at this
     rw [← HNw.out]
     rcases Nat.lt_or_ge j k with h | h
     ·rw [setAll_off _ _ _ _ (.inl (by omega))]
      exact HD.out j h c v hv
     ·obtain rfl : j = k := by omega
      rw [HX.out] at hv
      exact setAll_at _ _ _ _ _ (by show j * 3 + 3 ≤ row.size; exact hfit) hv
    case measure => simp [intOf]; omega
  ·have hge : N ≤ k := by omega
   go_wp2_with fail
   go_ret
   exact ⟨_, rfl, .inr ⟨w.heap.size, 0, row, rfl, Nat.le_refl _, hsz, HR.out, by rw [HRs.out, HN.out]; omega, fun i x hx c v hv => by
    have hi : i < l.length := (List.getElem?_eq_some_iff.1 hx).1
    rw [gtAt_some hi] at hx
    obtain rfl := Option.some.inj hx
    rw [Nat.zero_add]
    exact HD.out i (by have := HN.out; omega) c v hv⟩, hb⟩
end Go.Proofs.YtioldepgoodipaaGreat
namespace Go.Proofs.YtioldepgoodipaaGreat
open Go.RowKit Go.Joins
set_option linter.unusedVariables false

theorem OwnIn.out {α : Type} {c : α → List Value} {s : Nat} {e : TypeId} {lo hi lo' hi' : Nat} {w w' : World} {v : Value} {l : List α} (h : OwnIn c s e lo hi w v l) (ho : Out lo' hi' w w') (hh : hi ≤ w.heap.size) (hd : hi ≤ lo' ∨ hi' ≤ lo) : OwnIn c s e lo hi w' v l :=
 (h.solid.out ho hh hd).here
theorem Clone.info_d : (Tryz.prog.info? 162).map (fun i => (i.zero, i.size, i.bytes)) = some (some (.agg #[.int .i64 0, .int .i64 0, .int .i64 0, .int .i64 0, .int .i64 0, .int .i64 0, .int .i64 0, .bool false, .int .i64 0, .int .i64 0]), 10, 80) := by kernel_rfl
set_option maxRecDepth 100000 in
set_option maxHeartbeats 4000000 in
theorem clone_d (a : Option Addr) (cap : Nat) (l : List Dv) (w : World) (h : RsIn dvL 10 w a l) (hlen : l.length ≤ 1048576) :
  Calls Tryz.prog 142 #[.slice a l.length cap] w fun e w' => ∃ v, e = .returned v ∧ OwnIn dvL 10 162 w.heap.size w'.heap.size w' v l ∧ Below w.heap.size w w' := by
 obtain ⟨i0, hi, hz0, hz1, hz2⟩ := info_parts Clone.info_d
 have HI0 := Lib.hid (And.intro hi (And.intro hz0 (And.intro hz1 hz2)))
 clear hi hz0 hz1 hz2
 obtain ⟨N, hN⟩ : ∃ N, l.length = N := ⟨_, rfl⟩
 have HNl := Lib.hid hN
 rw [hN] at hlen ⊢
 clear hN
 have HI := Lib.hid h
 clear h
 rcases a with _ | ⟨b, o, sp⟩
 ·have hl : l = [] := by
   rcases HI.out with h | ⟨b, o', h', _⟩
   ·exact h
   ·cases h'
  obtain rfl : N = 0 := by rw [← HNl.out, hl]; rfl
  subst hl
  clear HI HNl
  have hq := fun W : World => Lib.run_eql_slice_nil (P := Tryz.prog) W 45 162 none 0 cap 0 0 Tryz.underlying45
  go_enter Tryz.func142, Tryz.ntmps142
  go_wp2
  go_ret
  exact ⟨_, rfl, OwnIn.none _, Below.refl _ _⟩
 have hq := fun W : World => Lib.run_eql_slice_nil (P := Tryz.prog) W 45 162 (some ⟨b, o, sp⟩) N cap 0 0 Tryz.underlying45
 go_enter Tryz.func142, Tryz.ntmps142
 go_wp2_with (first
  | (refine wpList_lit0 dvL 10 rfl 45 rfl 162 i0 Tryz.underlying45 HI0.out.1 ?_; intro w1 g hg1 hown1 hb1; have HO1 := Lib.hid hown1; have HB1 := Lib.hid hb1; have HG1 := Lib.hid hg1; clear hown1 hb1 hg1)
  | (at_builtin; refine wpList_append_rs dvL_len dvL_one rfl (.tmp 5) (.tmp 6) 45 rfl 162 i0 (.agg #[.int .i64 0, .int .i64 0, .int .i64 0, .int .i64 0, .int .i64 0, .int .i64 0, .int .i64 0, .bool false, .int .i64 0, .int .i64 0]) 80 Tryz.underlying45 HI0.out.1 HI0.out.2.1 HI0.out.2.2.1 HI0.out.2.2.2 rfl (by decide) g w1.heap.size _ [] rfl HO1.out (some ⟨b, o, sp⟩) cap l (by rw [HNl.out]; rfl) (HI.out.kept HB1.out) (by rw [HNl.out]; unfold maxLen; show 0 + N ≤ _; omega) (by rw [HNl.out]; show (0 + N) * 80 ≤ _; omega) (by have := HG1.out; have := HB1.out.size; omega) ?_; intro v2 w2 hown2 ho2; have HO2 := Lib.hid hown2; have HB2 := Lib.hid (show Below w.heap.size w w2 from ho2.below HB1.out (by rw [HG1.out]; exact Nat.le_refl _) HB1.out.size); clear hown2 ho2))
 go_ret
 refine ⟨_, rfl, ?_, HB2.out⟩
 have := HO2.out
 rw [List.nil_append, ← HG1.out] at this
 exact this
end Go.Proofs.YtioldepgoodipaaGreat
namespace Go.Proofs.YtioldepgoodipaaGreat
open Go.RowKit
set_option linter.unusedVariables false

def Tight (e : TypeId) (w : World) (lo l h : Nat) : Prop := (l = lo ∧ h = lo) ∨ (lo ≤ l ∧ h = l + 1 ∧ l < w.heap.size ∧ ∃ row, w.heap[l]? = some (.cells row e (0, 0)))
theorem Tight.apart {e f : TypeId} {w : World} {lo l h l' h' : Nat} (hne : e ≠ f) (k : Tight e w lo l h) (k' : Tight f w lo l' h') : h ≤ l' ∨ h' ≤ l := by
 rcases k with ⟨rfl, rfl⟩ | ⟨p1, rfl, _, row, p3⟩
 ·rcases k' with ⟨rfl, rfl⟩ | ⟨q1, rfl, _, _, _⟩
  ·exact .inl (Nat.le_refl _)
  ·exact .inl q1
 ·rcases k' with ⟨rfl, rfl⟩ | ⟨q1, rfl, _, row', q3⟩
  ·exact .inr p1
  ·have : l ≠ l' := by
    rintro rfl
    rw [p3] at q3
    injection q3 with q3
    injection q3 with _ ht _
    exact hne ht
   omega
theorem Tight.in {e : TypeId} {w : World} {lo l h hi : Nat} (k : Tight e w lo l h) (hlo : lo ≤ hi) (hhi : w.heap.size ≤ hi) : lo ≤ l ∧ l ≤ h ∧ h ≤ hi := by
 rcases k with ⟨rfl, rfl⟩ | ⟨p1, rfl, p2, _⟩ <;> omega
theorem RsNew.tight {α : Type} {c : α → List Value} {s : Nat} {e : TypeId} {lo hi : Nat} {w : World} {a : Option Addr} {l : List α} (k : RsNew c s e lo hi w a l) : ∃ l1 h1, Tight e w lo l1 h1 ∧ RsNew c s e l1 h1 w a l := by
 rcases k with rfl | ⟨b, o, row, rfl, p1, p2, hg, q⟩
 ·exact ⟨lo, lo, .inl ⟨rfl, rfl⟩, .inl rfl⟩
 ·exact ⟨b, b + 1, .inr ⟨p1, rfl, (Array.getElem?_eq_some_iff.1 hg).1, row, hg⟩, .inr ⟨b, o, row, rfl, Nat.le_refl _, Nat.lt_succ_self _, hg, q⟩⟩
theorem RsNew.stay {α : Type} {c : α → List Value} {s : Nat} {e : TypeId} {lo : Nat} {w w' : World} {a : Option Addr} {l : List α} (k : RsNew c s e lo w.heap.size w a l) (hs : w.heap.size ≤ w'.heap.size) (hk : ∀ k, lo ≤ k → k < w.heap.size → w'.heap[k]? = w.heap[k]?) : RsNew c s e lo w'.heap.size w' a l := by
 rcases k with h | ⟨b, o, row, rfl, p1, p2, hg, q⟩
 ·exact .inl h
 ·exact .inr ⟨b, o, row, rfl, p1, Nat.lt_of_lt_of_le p2 hs, (hk b p1 p2).trans hg, q⟩
def Rows5 (lo : Nat) (W : World) (y1 y2 y3 y4 y5 : Option Addr) (x : Nd) : Prop := RsNew nC 1 2 lo W.heap.size W y1 x.c.tk ∧ RsNew canL 2 66 lo W.heap.size W y2 x.q ∧ RsNew seL 7 159 lo W.heap.size W y3 x.t ∧ RsNew dvL 10 162 lo W.heap.size W y4 x.d ∧ RsNew gtL 3 144 lo W.heap.size W y5 x.g
theorem Rows5.new {lo : Nat} {W : World} {y1 y2 y3 y4 y5 : Option Addr} {x : Nd} (h : Rows5 lo W y1 y2 y3 y4 y5 x) (hlo : lo ≤ W.heap.size) : NdNew lo W.heap.size W y1 y2 y3 y4 y5 x := by
 obtain ⟨k1, k2, k3, k4, k5⟩ := h
 obtain ⟨l1, h1, t1, r1⟩ := k1.tight
 obtain ⟨l2, h2, t2, r2⟩ := k2.tight
 obtain ⟨l3, h3, t3, r3⟩ := k3.tight
 obtain ⟨l4, h4, t4, r4⟩ := k4.tight
 obtain ⟨l5, h5, t5, r5⟩ := k5.tight
 exact ⟨l1, h1, l2, h2, l3, h3, l4, h4, l5, h5, t1.in hlo (Nat.le_refl _), t2.in hlo (Nat.le_refl _), t3.in hlo (Nat.le_refl _), t4.in hlo (Nat.le_refl _), t5.in hlo (Nat.le_refl _),
  t1.apart (by decide) t2, t1.apart (by decide) t3, t1.apart (by decide) t4, t1.apart (by decide) t5, t2.apart (by decide) t3, t2.apart (by decide) t4, t2.apart (by decide) t5, t3.apart (by decide) t4, t3.apart (by decide) t5, t4.apart (by decide) t5, r1.nums, r2.cans, r3, r4, r5⟩
def NdOutNew (x : Nd) (cd : Int) (w : World) (e : Ending) (w' : World) : Prop := ∃ (y1 y2 y3 y4 y5 : Option Addr) (d1 d2 d3 d4 d5 : Nat), e = .returned (ndOutV x cd y1 y2 y3 y4 y5 d1 d2 d3 d4 d5) ∧ NdNew w.heap.size w'.heap.size w' y1 y2 y3 y4 y5 x ∧ Below w.heap.size w w'
def FinA (R2 lo : Nat) (x : Nd) (W : World) : Prop := ∃ (y1 y2 y3 y4 y5 : Option Addr) (d1 d2 d3 d4 d5 : Nat), W.heap[R2]? = some (.cells #[.int .i64 x.c.n.u, .int .i64 x.c.n.m, .int .i64 x.c.n.i, .int .i64 x.c.n.f, .int .i64 x.c.n.c, .int .i64 x.c.n.s, .int .i64 x.c.n.y, .bool x.c.n.a, .int .i64 x.c.ad, .int .i64 x.c.st, .int .i64 x.c.lf, .slice y1 x.c.tk.length d1, .slice y2 x.q.length d2, .slice y3 x.t.length d3, .slice y4 x.d.length d4, .slice y5 x.g.length d5, .int .i64 x.s, .int .i64 0] 50 (0, 0)) ∧ Rows5 lo W y1 y2 y3 y4 y5 x
def RA (R2 lo : Nat) (x : Nd) (W W' : World) : Prop := W.heap.size ≤ W'.heap.size ∧ (∀ k, lo ≤ k → k < W.heap.size → W'.heap[k]? = W.heap[k]?) ∧ (W'.heap[R2]? = W.heap[R2]? ∨ FinA R2 lo x W')
structure CA (w : World) (R1 R2 lo : Nat) (bx : Obj) (x : Nd) (W : World) : Prop where
 below : Below w.heap.size w W
 box : W.heap[R1]? = some bx
 res : W.heap[R2]? = some (.cells #[.int .i64 0, .int .i64 0, .int .i64 0, .int .i64 0, .int .i64 0, .int .i64 0, .int .i64 0, .bool false, .int .i64 0, .int .i64 0, .int .i64 0, .slice none 0 0, .slice none 0 0, .slice none 0 0, .slice none 0 0, .slice none 0 0, .int .i64 0, .int .i64 0] 50 (0, 0)) ∨ FinA R2 lo x W
 lo_ : lo ≤ W.heap.size
section
variable {w : World} {R1 R2 lo : Nat} {bx : Obj} {x : Nd} {W W' : World}
theorem Rows5.stay {y1 y2 y3 y4 y5 : Option Addr} (h : Rows5 lo W y1 y2 y3 y4 y5 x) (hs : W.heap.size ≤ W'.heap.size) (hk : ∀ k, lo ≤ k → k < W.heap.size → W'.heap[k]? = W.heap[k]?) : Rows5 lo W' y1 y2 y3 y4 y5 x :=
 ⟨h.1.stay hs hk, h.2.1.stay hs hk, h.2.2.1.stay hs hk, h.2.2.2.1.stay hs hk, h.2.2.2.2.stay hs hk⟩
theorem CA.go (h : CA w R1 R2 lo bx x W) (hb : Below W.heap.size W W') : CA w R1 R2 lo bx x W' :=
 ⟨h.below.trans (hb.mono h.below.size), (hb.block _ (Array.getElem?_eq_some_iff.1 h.box).1).trans h.box, h.res.imp (fun q => (hb.block _ (Array.getElem?_eq_some_iff.1 q).1).trans q) (fun ⟨y1, y2, y3, y4, y5, d1, d2, d3, d4, d5, q, r⟩ => ⟨y1, y2, y3, y4, y5, d1, d2, d3, d4, d5, (hb.block _ (Array.getElem?_eq_some_iff.1 q).1).trans q, r.stay hb.size (fun k _ hk => hb.block k hk)⟩), Nat.le_trans h.lo_ hb.size⟩
theorem CA.r2 (h : CA w R1 R2 lo bx x W) : R2 < W.heap.size := h.res.elim (fun q => (Array.getElem?_eq_some_iff.1 q).1) (fun ⟨_, _, _, _, _, _, _, _, _, _, q, _⟩ => (Array.getElem?_eq_some_iff.1 q).1)
theorem CA.ra (h : CA w R1 R2 lo bx x W) (hb : Below W.heap.size W W') : RA R2 lo x W W' := ⟨hb.size, fun k _ hk => hb.block k hk, .inl (hb.block _ h.r2)⟩
theorem RA.refl : RA R2 lo x W W := ⟨Nat.le_refl _, fun _ _ _ => rfl, .inl rfl⟩
end
def TA (R1 R2 lo : Nat) (x : Nd) (a1 a2 a3 a4 a5 : Option Addr) (c1 c2 c3 c4 c5 : Nat) : Nat → World → Value → Prop
 | 0, W, v => v = .pointer (some ⟨R1, 0, none⟩)
 | 1, W, v => v = .agg #[.int .i64 x.c.n.u, .int .i64 x.c.n.m, .int .i64 x.c.n.i, .int .i64 x.c.n.f, .int .i64 x.c.n.c, .int .i64 x.c.n.s, .int .i64 x.c.n.y, .bool x.c.n.a, .int .i64 x.c.ad, .int .i64 x.c.st, .int .i64 x.c.lf, .slice a1 x.c.tk.length c1]
 | 2, W, v => ∃ (y : Option Addr) (d : Nat), v = .agg #[.int .i64 x.c.n.u, .int .i64 x.c.n.m, .int .i64 x.c.n.i, .int .i64 x.c.n.f, .int .i64 x.c.n.c, .int .i64 x.c.n.s, .int .i64 x.c.n.y, .bool x.c.n.a, .int .i64 x.c.ad, .int .i64 x.c.st, .int .i64 x.c.lf, .slice y x.c.tk.length d] ∧ RsNew nC 1 2 lo W.heap.size W y x.c.tk
 | 3, W, v => v = .pointer (some ⟨R1, 12, none⟩)
 | 4, W, v => v = .agg #[.slice a2 x.q.length c2]
 | 5, W, v => v = .agg #[.slice a2 x.q.length c2]
 | 6, W, v => ∃ (y : Option Addr) (d : Nat), v = .agg #[.slice y x.q.length d] ∧ RsNew canL 2 66 lo W.heap.size W y x.q
 | 7, W, v => v = .pointer (some ⟨R1, 13, none⟩)
 | 8, W, v => v = .slice a3 x.t.length c3
 | 9, W, v => ∃ (y : Option Addr) (d : Nat), v = .slice y x.t.length d ∧ RsNew seL 7 159 lo W.heap.size W y x.t
 | 10, W, v => v = .pointer (some ⟨R1, 14, none⟩)
 | 11, W, v => v = .slice a4 x.d.length c4
 | 12, W, v => ∃ (y : Option Addr) (d : Nat), v = .slice y x.d.length d ∧ RsNew dvL 10 162 lo W.heap.size W y x.d
 | 13, W, v => v = .pointer (some ⟨R1, 15, none⟩)
 | 14, W, v => v = .slice a5 x.g.length c5
 | 15, W, v => ∃ (y : Option Addr) (d : Nat), v = .slice y x.g.length d ∧ RsNew gtL 3 144 lo W.heap.size W y x.g
 | 16, W, v => v = .pointer (some ⟨R1, 16, none⟩)
 | 17, W, v => v = .int .i64 x.s
 | 18, W, v => ∃ (y1 y2 y3 y4 y5 : Option Addr) (d1 d2 d3 d4 d5 : Nat), v = .agg #[.int .i64 x.c.n.u, .int .i64 x.c.n.m, .int .i64 x.c.n.i, .int .i64 x.c.n.f, .int .i64 x.c.n.c, .int .i64 x.c.n.s, .int .i64 x.c.n.y, .bool x.c.n.a, .int .i64 x.c.ad, .int .i64 x.c.st, .int .i64 x.c.lf, .slice y1 x.c.tk.length d1, .slice y2 x.q.length d2, .slice y3 x.t.length d3, .slice y4 x.d.length d4, .slice y5 x.g.length d5, .int .i64 x.s] ∧ Rows5 lo W y1 y2 y3 y4 y5 x
 | 19, W, v => ∃ (y1 y2 y3 y4 y5 : Option Addr) (d1 d2 d3 d4 d5 : Nat), v = .agg #[.int .i64 x.c.n.u, .int .i64 x.c.n.m, .int .i64 x.c.n.i, .int .i64 x.c.n.f, .int .i64 x.c.n.c, .int .i64 x.c.n.s, .int .i64 x.c.n.y, .bool x.c.n.a, .int .i64 x.c.ad, .int .i64 x.c.st, .int .i64 x.c.lf, .slice y1 x.c.tk.length d1, .slice y2 x.q.length d2, .slice y3 x.t.length d3, .slice y4 x.d.length d4, .slice y5 x.g.length d5, .int .i64 x.s, .int .i64 0] ∧ Rows5 lo W y1 y2 y3 y4 y5 x
 | 20, W, v => FinA R2 lo x W
 | _ + 21, _, _ => True
theorem TA.kept {R1 R2 lo : Nat} {x : Nd} {a1 a2 a3 a4 a5 : Option Addr} {c1 c2 c3 c4 c5 : Nat} : ∀ j w w' v, RA R2 lo x w w' → TA R1 R2 lo x a1 a2 a3 a4 a5 c1 c2 c3 c4 c5 j w v → TA R1 R2 lo x a1 a2 a3 a4 a5 c1 c2 c3 c4 c5 j w' v
 | 2, _, _, _, hR, ⟨y, d, h1, h2⟩ => ⟨y, d, h1, h2.stay hR.1 hR.2.1⟩
 | 6, _, _, _, hR, ⟨y, d, h1, h2⟩ => ⟨y, d, h1, h2.stay hR.1 hR.2.1⟩
 | 9, _, _, _, hR, ⟨y, d, h1, h2⟩ => ⟨y, d, h1, h2.stay hR.1 hR.2.1⟩
 | 12, _, _, _, hR, ⟨y, d, h1, h2⟩ => ⟨y, d, h1, h2.stay hR.1 hR.2.1⟩
 | 15, _, _, _, hR, ⟨y, d, h1, h2⟩ => ⟨y, d, h1, h2.stay hR.1 hR.2.1⟩
 | 18, _, _, _, hR, ⟨y1, y2, y3, y4, y5, d1, d2, d3, d4, d5, h1, h2⟩ => ⟨y1, y2, y3, y4, y5, d1, d2, d3, d4, d5, h1, h2.stay hR.1 hR.2.1⟩
 | 19, _, _, _, hR, ⟨y1, y2, y3, y4, y5, d1, d2, d3, d4, d5, h1, h2⟩ => ⟨y1, y2, y3, y4, y5, d1, d2, d3, d4, d5, h1, h2.stay hR.1 hR.2.1⟩
 | 20, _, _, _, hR, ⟨y1, y2, y3, y4, y5, d1, d2, d3, d4, d5, h1, h2⟩ => by
  rcases hR.2.2 with q | q
  ·exact ⟨y1, y2, y3, y4, y5, d1, d2, d3, d4, d5, q.trans h1, h2.stay hR.1 hR.2.1⟩
  ·exact q
 | 0, _, _, _, _, h | 1, _, _, _, _, h | 3, _, _, _, _, h | 4, _, _, _, _, h | 5, _, _, _, _, h | 7, _, _, _, _, h | 8, _, _, _, _, h | 10, _, _, _, _, h | 11, _, _, _, _, h | 13, _, _, _, _, h | 14, _, _, _, _, h | 16, _, _, _, _, h | 17, _, _, _, _, h => h
 | _ + 21, _, _, _, _, h => h
theorem sub_at0 {x : Nd} {a1 a2 a3 a4 a5 : Option Addr} {c1 c2 c3 c4 c5 : Nat} : ∀ (j : Nat) (v : Value), ([.int .i64 x.c.n.u, .int .i64 x.c.n.m, .int .i64 x.c.n.i, .int .i64 x.c.n.f, .int .i64 x.c.n.c, .int .i64 x.c.n.s, .int .i64 x.c.n.y, .bool x.c.n.a, .int .i64 x.c.ad, .int .i64 x.c.st, .int .i64 x.c.lf, .slice a1 x.c.tk.length c1] : List Value)[j]? = some v → (#[.int .i64 x.c.n.u, .int .i64 x.c.n.m, .int .i64 x.c.n.i, .int .i64 x.c.n.f, .int .i64 x.c.n.c, .int .i64 x.c.n.s, .int .i64 x.c.n.y, .bool x.c.n.a, .int .i64 x.c.ad, .int .i64 x.c.st, .int .i64 x.c.lf, .slice a1 x.c.tk.length c1, .slice a2 x.q.length c2, .slice a3 x.t.length c3, .slice a4 x.d.length c4, .slice a5 x.g.length c5, .int .i64 x.s] : Array Value)[0 + j]? = some v := by
 intro j v hv
 rcases j with _ | _ | _ | _ | _ | _ | _ | _ | _ | _ | _ | _ | j
 all_goals first | exact hv | (simp at hv)
theorem sub_at12 {x : Nd} {a1 a2 a3 a4 a5 : Option Addr} {c1 c2 c3 c4 c5 : Nat} : ∀ (j : Nat) (v : Value), ([.slice a2 x.q.length c2] : List Value)[j]? = some v → (#[.int .i64 x.c.n.u, .int .i64 x.c.n.m, .int .i64 x.c.n.i, .int .i64 x.c.n.f, .int .i64 x.c.n.c, .int .i64 x.c.n.s, .int .i64 x.c.n.y, .bool x.c.n.a, .int .i64 x.c.ad, .int .i64 x.c.st, .int .i64 x.c.lf, .slice a1 x.c.tk.length c1, .slice a2 x.q.length c2, .slice a3 x.t.length c3, .slice a4 x.d.length c4, .slice a5 x.g.length c5, .int .i64 x.s] : Array Value)[12 + j]? = some v := by
 intro j v hv
 rcases j with _ | j
 all_goals first | exact hv | (simp at hv)
set_option maxRecDepth 100000 in
set_option maxHeartbeats 32000000 in
theorem answered_any (x : Nd) (a1 a2 a3 a4 a5 : Option Addr) (c1 c2 c3 c4 c5 : Nat) (w : World) (h : NdIn w a1 a2 a3 a4 a5 x) (hs : NdSmall x) (hq : CansSmall x.q) (ht : ∀ i, i < x.t.length → (seAt x.t i).dt.size ≤ 1000000) (hg : ∀ i, i < x.g.length → (gtAt x.g i).dt.size ≤ 1000000) :
  Calls Tryz.prog 69 #[ndV x a1 a2 a3 a4 a5 c1 c2 c3 c4 c5] w (NdOutNew x 0 w) := by
 unfold NdSmall at hs
 obtain ⟨s1, s2, ⟨s3, -⟩, s4, s5, -⟩ := hs
 obtain ⟨i1, i2, i3, i4, i5⟩ := h
 have HI1 := Lib.hid i1
 have HI2 := Lib.hid i2
 have HI3 := Lib.hid i3
 have HI4 := Lib.hid i4
 have HI5 := Lib.hid i5
 have HC1 := fun W h => Lib.hid (copied_any x.c.n x.c.ad x.c.st x.c.lf a1 c1 x.c.tk W h s1)
 have HC2 := fun W h => Lib.hid (freshQueue_new a2 c2 x.q W h hq s2)
 have HC3 := fun W h => Lib.hid (freshTable_new a3 c3 x.t W h ht s3)
 have HC4 := fun W h => Lib.hid (clone_d a4 c4 x.d W h s4)
 have HC5 := fun W h => Lib.hid (freshGot_new a5 c5 x.g W h hg s5)
 unfold clV at HC1
 clear i1 i2 i3 i4 i5 s1 s2 s3 s4 s5 hq ht hg
 unfold ndV NdOutNew ndOutV
 go_enter Tryz.func69, Tryz.ntmps69
 go_wp2_with (first
  | (refine wpList_box_h rfl 104 (.tmp 0) rfl #[.int .i64 x.c.n.u, .int .i64 x.c.n.m, .int .i64 x.c.n.i, .int .i64 x.c.n.f, .int .i64 x.c.n.c, .int .i64 x.c.n.s, .int .i64 x.c.n.y, .bool x.c.n.a, .int .i64 x.c.ad, .int .i64 x.c.st, .int .i64 x.c.lf, .slice a1 x.c.tk.length c1, .slice a2 x.q.length c2, .slice a3 x.t.length c3, .slice a4 x.d.length c4, .slice a5 x.g.length c5, .int .i64 x.s] rfl ?_; intro w1 R1 e1 g1 b1; have HL1 := Lib.hid (show Lg w w1 [(R1, #[.int .i64 x.c.n.u, .int .i64 x.c.n.m, .int .i64 x.c.n.i, .int .i64 x.c.n.f, .int .i64 x.c.n.c, .int .i64 x.c.n.s, .int .i64 x.c.n.y, .bool x.c.n.a, .int .i64 x.c.ad, .int .i64 x.c.st, .int .i64 x.c.lf, .slice a1 x.c.tk.length c1, .slice a2 x.q.length c2, .slice a3 x.t.length c3, .slice a4 x.d.length c4, .slice a5 x.g.length c5, .int .i64 x.s], 104)] [] from (Lg.first w).box e1 g1 b1); clear g1 b1 e1)
  | (refine wpList_alloc_h rfl 50 rfl (.agg #[.int .i64 0, .int .i64 0, .int .i64 0, .int .i64 0, .int .i64 0, .int .i64 0, .int .i64 0, .bool false, .int .i64 0, .int .i64 0, .int .i64 0, .slice none 0 0, .slice none 0 0, .slice none 0 0, .slice none 0 0, .slice none 0 0, .int .i64 0, .int .i64 0]) (by kernel_rfl) #[.int .i64 0, .int .i64 0, .int .i64 0, .int .i64 0, .int .i64 0, .int .i64 0, .int .i64 0, .bool false, .int .i64 0, .int .i64 0, .int .i64 0, .slice none 0 0, .slice none 0 0, .slice none 0 0, .slice none 0 0, .slice none 0 0, .int .i64 0, .int .i64 0] rfl ?_; intro w2 R2 e2 g2 b2; have qR2_R1 : R1 < R2 := Nat.lt_of_lt_of_eq (HL1.out.lt (.head _)) e2; have HL2 := Lib.hid (show Lg w w2 [(R2, (qE6), 50), (R1, #[.int .i64 x.c.n.u, .int .i64 x.c.n.m, .int .i64 x.c.n.i, .int .i64 x.c.n.f, .int .i64 x.c.n.c, .int .i64 x.c.n.s, .int .i64 x.c.n.y, .bool x.c.n.a, .int .i64 x.c.ad, .int .i64 x.c.st, .int .i64 x.c.lf, .slice a1 x.c.tk.length c1, .slice a2 x.q.length c2, .slice a3 x.t.length c3, .slice a4 x.d.length c4, .slice a5 x.g.length c5, .int .i64 x.s], 104)] [] from HL1.out.box e2 g2 b2); clear g2 b2 e2))
 have HRb := Lib.hid (HL2.out.get qEm1)
 have HRr := Lib.hid (HL2.out.get (.head _))
 have hR1 : R1 < w2.heap.size := HL2.out.lt qEm1
 have hR2 : R2 < w2.heap.size := HL2.out.lt (.head _)
 have hR2w : w.heap.size ≤ R2 := HL2.out.ge (.head _)
 have hw2 : w.heap.size ≤ w2.heap.size := HL2.out.below.size
 have HNE := Lib.hid (Nat.ne_of_lt qR2_R1)
 obtain ⟨BX, hBX⟩ : ∃ o, (.cells #[.int .i64 x.c.n.u, .int .i64 x.c.n.m, .int .i64 x.c.n.i, .int .i64 x.c.n.f, .int .i64 x.c.n.c, .int .i64 x.c.n.s, .int .i64 x.c.n.y, .bool x.c.n.a, .int .i64 x.c.ad, .int .i64 x.c.st, .int .i64 x.c.lf, .slice a1 x.c.tk.length c1, .slice a2 x.q.length c2, .slice a3 x.t.length c3, .slice a4 x.d.length c4, .slice a5 x.g.length c5, .int .i64 x.s] 104 (0, 0) : Obj) = o := ⟨_, rfl⟩
 have HBX := Lib.hid hBX
 have HQ := Lib.hid (show w2.heap[R1]? = some BX from by rw [← hBX]; exact HRb.out)
 clear hBX
 refine wp_region_anyord (CA w R1 R2 w2.heap.size BX x) (RA R2 w2.heap.size x) (TA R1 R2 w2.heap.size x a1 a2 a3 a4 a5 c1 c2 c3 c4 c5) (by kernel_rfl) (by kernel_rfl) (by kernel_rfl) TA.kept ?_ ?_ ?_
 ·exact ⟨HL2.out.below.drew, HQ.out, .inl HRr.out, Nat.le_refl _⟩
 ·refine ⟨⟨rfl, fun a1_ W hC hK => ?_⟩, ⟨rfl, fun a1_ W hC hK => ?_⟩, ⟨rfl, fun a1_ W hC hK => ?_⟩, ⟨rfl, fun a1_ W hC hK => ?_⟩, ⟨rfl, fun a1_ W hC hK => ?_⟩, ⟨rfl, fun a1_ W hC hK => ?_⟩, ⟨rfl, fun a1_ W hC hK => ?_⟩, ⟨rfl, fun a1_ W hC hK => ?_⟩, ⟨rfl, fun a1_ W hC hK => ?_⟩, ⟨rfl, fun a1_ W hC hK => ?_⟩, ⟨rfl, fun a1_ W hC hK => ?_⟩, ⟨rfl, fun a1_ W hC hK => ?_⟩, ⟨rfl, fun a1_ W hC hK => ?_⟩, ⟨rfl, fun a1_ W hC hK => ?_⟩, ⟨rfl, fun a1_ W hC hK => ?_⟩, ⟨rfl, fun a1_ W hC hK => ?_⟩, ⟨rfl, fun a1_ W hC hK => ?_⟩, ⟨rfl, fun a1_ W hC hK => ?_⟩, ⟨rfl, fun a1_ W hC hK => ?_⟩, ⟨rfl, fun a1_ W hC hK => ?_⟩, ⟨rfl, fun a1_ W hC hK => ?_⟩, trivial⟩
  ·have e1 : a1_.eval (.tmp 1) = .pointer (some ⟨R1, 0, none⟩) := (hK.old 1 (by kernel_rfl)).trans rfl
   have c0 := cell_of_row W R1 0 _ _ (0, 0) (hC.box.trans (congrArg some HBX.out.symm))
   simp only [Act.eval, Array.getD_eq_getD_getElem?] at e1
   exact ob_value (v := .pointer (some ⟨R1, 0, none⟩)) (w' := W) (by simp [execOp, go_sem, e1]) ⟨_, rfl, hC, RA.refl, rfl⟩
  ·have e1 : a1_.eval (.tmp 3) = .pointer (some ⟨R1, 0, none⟩) := freeOf_get hK 0 3 (by kernel_rfl) rfl rfl rfl
   exact wp_load_mid 40 (.tmp 3) rfl R1 0 e1 [.int .i64 x.c.n.u, .int .i64 x.c.n.m, .int .i64 x.c.n.i, .int .i64 x.c.n.f, .int .i64 x.c.n.c, .int .i64 x.c.n.s, .int .i64 x.c.n.y, .bool x.c.n.a, .int .i64 x.c.ad, .int .i64 x.c.st, .int .i64 x.c.lf, .slice a1 x.c.tk.length c1] _ (fun j v hv => (cell_of_row W R1 (0 + j) _ _ (0, 0) (hC.box.trans (congrArg some HBX.out.symm))).trans (sub_at0 j v hv)) Tryz.underlying40 rfl (by kernel_rfl) ⟨_, rfl, hC, RA.refl, rfl⟩
  ·have e1 : a1_.eval (.tmp 4) = .agg #[.int .i64 x.c.n.u, .int .i64 x.c.n.m, .int .i64 x.c.n.i, .int .i64 x.c.n.f, .int .i64 x.c.n.c, .int .i64 x.c.n.s, .int .i64 x.c.n.y, .bool x.c.n.a, .int .i64 x.c.ad, .int .i64 x.c.st, .int .i64 x.c.lf, .slice a1 x.c.tk.length c1] := freeOf_get hK 1 4 (by kernel_rfl) rfl rfl rfl
   simp only [Act.eval, Array.getD_eq_getD_getElem?] at e1
   refine ob_call rfl Tryz.func138 (by kernel_rfl) (by kernel_rfl) (vals := #[.agg #[.int .i64 x.c.n.u, .int .i64 x.c.n.m, .int .i64 x.c.n.i, .int .i64 x.c.n.f, .int .i64 x.c.n.c, .int .i64 x.c.n.s, .int .i64 x.c.n.y, .bool x.c.n.a, .int .i64 x.c.ad, .int .i64 x.c.st, .int .i64 x.c.lf, .slice a1 x.c.tk.length c1]]) (by simp [Act.eval, e1]) ?_
   refine ((HC1 W (HI1.out.kept hC.below)).out).mono ?_
   rintro e W' ⟨y, d, rfl, hn, hb⟩
   exact ⟨_, rfl, _, rfl, hC.go hb, hC.ra hb, y, d, rfl, hn.wide hC.lo_ (Nat.le_refl _)⟩
  ·have e1 : a1_.eval (.tmp 1) = .pointer (some ⟨R1, 0, none⟩) := (hK.old 1 (by kernel_rfl)).trans rfl
   have c0 := cell_of_row W R1 0 _ _ (0, 0) (hC.box.trans (congrArg some HBX.out.symm))
   simp only [Act.eval, Array.getD_eq_getD_getElem?] at e1
   exact ob_value (v := .pointer (some ⟨R1, 12, none⟩)) (w' := W) (by simp [execOp, go_sem, e1]) ⟨_, rfl, hC, RA.refl, rfl⟩
  ·have e1 : a1_.eval (.tmp 6) = .pointer (some ⟨R1, 12, none⟩) := freeOf_get hK 3 6 (by kernel_rfl) rfl rfl rfl
   exact wp_load_mid 43 (.tmp 6) rfl R1 12 e1 [.slice a2 x.q.length c2] _ (fun j v hv => (cell_of_row W R1 (12 + j) _ _ (0, 0) (hC.box.trans (congrArg some HBX.out.symm))).trans (sub_at12 j v hv)) Tryz.underlying43 rfl (by kernel_rfl) ⟨_, rfl, hC, RA.refl, rfl⟩
  ·have e1 : a1_.eval (.tmp 7) = .agg #[.slice a2 x.q.length c2] := freeOf_get hK 4 7 (by kernel_rfl) rfl rfl rfl
   simp only [Act.eval, Array.getD_eq_getD_getElem?] at e1
   refine ob_call rfl Tryz.func140 (by kernel_rfl) (by kernel_rfl) (vals := #[.agg #[.slice a2 x.q.length c2]]) (by simp [Act.eval, e1]) ?_
   refine (waitingInC_any a2 x.q.length c2 W).mono ?_
   rintro e W' ⟨rfl, hb⟩
   exact ⟨_, rfl, _, rfl, hC.go hb, hC.ra hb, rfl⟩
  ·have e1 : a1_.eval (.tmp 8) = .agg #[.slice a2 x.q.length c2] := freeOf_get hK 5 8 (by kernel_rfl) rfl rfl rfl
   simp only [Act.eval, Array.getD_eq_getD_getElem?] at e1
   refine ob_call rfl Tryz.func139 (by kernel_rfl) (by kernel_rfl) (vals := #[.agg #[.slice a2 x.q.length c2]]) (by simp [Act.eval, e1]) ?_
   refine ((HC2 W (HI2.out.kept hC.below)).out).mono ?_
   rintro e W' ⟨y, rfl, hn, hb⟩
   exact ⟨_, rfl, _, rfl, hC.go hb, hC.ra hb, y, _, rfl, hn.wide hC.lo_ (Nat.le_refl _)⟩
  ·have e1 : a1_.eval (.tmp 1) = .pointer (some ⟨R1, 0, none⟩) := (hK.old 1 (by kernel_rfl)).trans rfl
   have c0 := cell_of_row W R1 0 _ _ (0, 0) (hC.box.trans (congrArg some HBX.out.symm))
   simp only [Act.eval, Array.getD_eq_getD_getElem?] at e1
   exact ob_value (v := .pointer (some ⟨R1, 13, none⟩)) (w' := W) (by simp [execOp, go_sem, e1]) ⟨_, rfl, hC, RA.refl, rfl⟩
  ·have e1 : a1_.eval (.tmp 10) = .pointer (some ⟨R1, 13, none⟩) := freeOf_get hK 7 10 (by kernel_rfl) rfl rfl rfl
   have c0 := cell_of_row W R1 13 _ _ (0, 0) (hC.box.trans (congrArg some HBX.out.symm))
   simp only [Act.eval, Array.getD_eq_getD_getElem?] at e1
   exact ob_value (v := .slice a3 x.t.length c3) (w' := W) (by simp [execOp, go_sem, e1, c0]) ⟨_, rfl, hC, RA.refl, rfl⟩
  ·have e1 : a1_.eval (.tmp 11) = .slice a3 x.t.length c3 := freeOf_get hK 8 11 (by kernel_rfl) rfl rfl rfl
   simp only [Act.eval, Array.getD_eq_getD_getElem?] at e1
   refine ob_call rfl Tryz.func141 (by kernel_rfl) (by kernel_rfl) (vals := #[.slice a3 x.t.length c3]) (by simp [Act.eval, e1]) ?_
   refine ((HC3 W (HI3.out.kept hC.below)).out).mono ?_
   rintro e W' ⟨y, rfl, hn, hb⟩
   exact ⟨_, rfl, _, rfl, hC.go hb, hC.ra hb, y, _, rfl, hn.wide hC.lo_ (Nat.le_refl _)⟩
  ·have e1 : a1_.eval (.tmp 1) = .pointer (some ⟨R1, 0, none⟩) := (hK.old 1 (by kernel_rfl)).trans rfl
   have c0 := cell_of_row W R1 0 _ _ (0, 0) (hC.box.trans (congrArg some HBX.out.symm))
   simp only [Act.eval, Array.getD_eq_getD_getElem?] at e1
   exact ob_value (v := .pointer (some ⟨R1, 14, none⟩)) (w' := W) (by simp [execOp, go_sem, e1]) ⟨_, rfl, hC, RA.refl, rfl⟩
  ·have e1 : a1_.eval (.tmp 13) = .pointer (some ⟨R1, 14, none⟩) := freeOf_get hK 10 13 (by kernel_rfl) rfl rfl rfl
   have c0 := cell_of_row W R1 14 _ _ (0, 0) (hC.box.trans (congrArg some HBX.out.symm))
   simp only [Act.eval, Array.getD_eq_getD_getElem?] at e1
   exact ob_value (v := .slice a4 x.d.length c4) (w' := W) (by simp [execOp, go_sem, e1, c0]) ⟨_, rfl, hC, RA.refl, rfl⟩
  ·have e1 : a1_.eval (.tmp 14) = .slice a4 x.d.length c4 := freeOf_get hK 11 14 (by kernel_rfl) rfl rfl rfl
   simp only [Act.eval, Array.getD_eq_getD_getElem?] at e1
   refine ob_call rfl Tryz.func142 (by kernel_rfl) (by kernel_rfl) (vals := #[.slice a4 x.d.length c4]) (by simp [Act.eval, e1]) ?_
   refine ((HC4 W (HI4.out.kept hC.below)).out).mono ?_
   rintro e W' ⟨v, rfl, how, hb⟩
   obtain ⟨y, d, rfl, _, hn⟩ := how.new dvL_len
   exact ⟨_, rfl, _, rfl, hC.go hb, hC.ra hb, y, d, rfl, hn.wide hC.lo_ (Nat.le_refl _)⟩
  ·have e1 : a1_.eval (.tmp 1) = .pointer (some ⟨R1, 0, none⟩) := (hK.old 1 (by kernel_rfl)).trans rfl
   have c0 := cell_of_row W R1 0 _ _ (0, 0) (hC.box.trans (congrArg some HBX.out.symm))
   simp only [Act.eval, Array.getD_eq_getD_getElem?] at e1
   exact ob_value (v := .pointer (some ⟨R1, 15, none⟩)) (w' := W) (by simp [execOp, go_sem, e1]) ⟨_, rfl, hC, RA.refl, rfl⟩
  ·have e1 : a1_.eval (.tmp 16) = .pointer (some ⟨R1, 15, none⟩) := freeOf_get hK 13 16 (by kernel_rfl) rfl rfl rfl
   have c0 := cell_of_row W R1 15 _ _ (0, 0) (hC.box.trans (congrArg some HBX.out.symm))
   simp only [Act.eval, Array.getD_eq_getD_getElem?] at e1
   exact ob_value (v := .slice a5 x.g.length c5) (w' := W) (by simp [execOp, go_sem, e1, c0]) ⟨_, rfl, hC, RA.refl, rfl⟩
  ·have e1 : a1_.eval (.tmp 17) = .slice a5 x.g.length c5 := freeOf_get hK 14 17 (by kernel_rfl) rfl rfl rfl
   simp only [Act.eval, Array.getD_eq_getD_getElem?] at e1
   refine ob_call rfl Tryz.func143 (by kernel_rfl) (by kernel_rfl) (vals := #[.slice a5 x.g.length c5]) (by simp [Act.eval, e1]) ?_
   refine ((HC5 W (HI5.out.kept hC.below)).out).mono ?_
   rintro e W' ⟨y, rfl, hn, hb⟩
   exact ⟨_, rfl, _, rfl, hC.go hb, hC.ra hb, y, _, rfl, hn.wide hC.lo_ (Nat.le_refl _)⟩
  ·have e1 : a1_.eval (.tmp 1) = .pointer (some ⟨R1, 0, none⟩) := (hK.old 1 (by kernel_rfl)).trans rfl
   have c0 := cell_of_row W R1 0 _ _ (0, 0) (hC.box.trans (congrArg some HBX.out.symm))
   simp only [Act.eval, Array.getD_eq_getD_getElem?] at e1
   exact ob_value (v := .pointer (some ⟨R1, 16, none⟩)) (w' := W) (by simp [execOp, go_sem, e1]) ⟨_, rfl, hC, RA.refl, rfl⟩
  ·have e1 : a1_.eval (.tmp 19) = .pointer (some ⟨R1, 16, none⟩) := freeOf_get hK 16 19 (by kernel_rfl) rfl rfl rfl
   have c0 := cell_of_row W R1 16 _ _ (0, 0) (hC.box.trans (congrArg some HBX.out.symm))
   simp only [Act.eval, Array.getD_eq_getD_getElem?] at e1
   exact ob_value (v := .int .i64 x.s) (w' := W) (by simp [execOp, go_sem, e1, c0]) ⟨_, rfl, hC, RA.refl, rfl⟩
  ·obtain ⟨y1, d1, e1, r1⟩ : TA R1 R2 w2.heap.size x a1 a2 a3 a4 a5 c1 c2 c3 c4 c5 2 W (a1_.eval (.tmp 5)) := freeOf_get hK 2 5 (by kernel_rfl) rfl rfl rfl
   obtain ⟨y2, d2, e2, r2⟩ : TA R1 R2 w2.heap.size x a1 a2 a3 a4 a5 c1 c2 c3 c4 c5 6 W (a1_.eval (.tmp 9)) := freeOf_get hK 6 9 (by kernel_rfl) rfl rfl rfl
   obtain ⟨y3, d3, e3, r3⟩ : TA R1 R2 w2.heap.size x a1 a2 a3 a4 a5 c1 c2 c3 c4 c5 9 W (a1_.eval (.tmp 12)) := freeOf_get hK 9 12 (by kernel_rfl) rfl rfl rfl
   obtain ⟨y4, d4, e4, r4⟩ : TA R1 R2 w2.heap.size x a1 a2 a3 a4 a5 c1 c2 c3 c4 c5 12 W (a1_.eval (.tmp 15)) := freeOf_get hK 12 15 (by kernel_rfl) rfl rfl rfl
   obtain ⟨y5, d5, e5, r5⟩ : TA R1 R2 w2.heap.size x a1 a2 a3 a4 a5 c1 c2 c3 c4 c5 15 W (a1_.eval (.tmp 18)) := freeOf_get hK 15 18 (by kernel_rfl) rfl rfl rfl
   have e6 : a1_.eval (.tmp 20) = .int .i64 x.s := freeOf_get hK 17 20 (by kernel_rfl) rfl rfl rfl
   simp only [Act.eval, Array.getD_eq_getD_getElem?] at e1 e2 e3 e4 e5 e6
   exact ob_value (v := .agg #[.int .i64 x.c.n.u, .int .i64 x.c.n.m, .int .i64 x.c.n.i, .int .i64 x.c.n.f, .int .i64 x.c.n.c, .int .i64 x.c.n.s, .int .i64 x.c.n.y, .bool x.c.n.a, .int .i64 x.c.ad, .int .i64 x.c.st, .int .i64 x.c.lf, .slice y1 x.c.tk.length d1, .slice y2 x.q.length d2, .slice y3 x.t.length d3, .slice y4 x.d.length d4, .slice y5 x.g.length d5, .int .i64 x.s]) (w' := W) (by simp [execOp, go_sem, e1, e2, e3, e4, e5, e6]) ⟨_, rfl, hC, RA.refl, y1, y2, y3, y4, y5, d1, d2, d3, d4, d5, rfl, r1, r2, r3, r4, r5⟩
  ·obtain ⟨y1, y2, y3, y4, y5, d1, d2, d3, d4, d5, e1, r⟩ : TA R1 R2 w2.heap.size x a1 a2 a3 a4 a5 c1 c2 c3 c4 c5 18 W (a1_.eval (.tmp 21)) := freeOf_get hK 18 21 (by kernel_rfl) rfl rfl rfl
   simp only [Act.eval, Array.getD_eq_getD_getElem?] at e1
   exact ob_value (v := .agg #[.int .i64 x.c.n.u, .int .i64 x.c.n.m, .int .i64 x.c.n.i, .int .i64 x.c.n.f, .int .i64 x.c.n.c, .int .i64 x.c.n.s, .int .i64 x.c.n.y, .bool x.c.n.a, .int .i64 x.c.ad, .int .i64 x.c.st, .int .i64 x.c.lf, .slice y1 x.c.tk.length d1, .slice y2 x.q.length d2, .slice y3 x.t.length d3, .slice y4 x.d.length d4, .slice y5 x.g.length d5, .int .i64 x.s, .int .i64 0]) (w' := W) (by simp [execOp, go_sem, e1]) ⟨_, rfl, hC, RA.refl, y1, y2, y3, y4, y5, d1, d2, d3, d4, d5, rfl, r⟩
  ·obtain ⟨y1, y2, y3, y4, y5, d1, d2, d3, d4, d5, e1, r⟩ : TA R1 R2 w2.heap.size x a1 a2 a3 a4 a5 c1 c2 c3 c4 c5 19 W (a1_.eval (.tmp 22)) := freeOf_get hK 19 22 (by kernel_rfl) rfl rfl rfl
   have e2 : a1_.eval (.tmp 2) = .pointer (some ⟨R2, 0, none⟩) := (hK.old 2 (by kernel_rfl)).trans rfl
   have hfin : ∀ w', w'.heap[R2]? = some (.cells #[.int .i64 x.c.n.u, .int .i64 x.c.n.m, .int .i64 x.c.n.i, .int .i64 x.c.n.f, .int .i64 x.c.n.c, .int .i64 x.c.n.s, .int .i64 x.c.n.y, .bool x.c.n.a, .int .i64 x.c.ad, .int .i64 x.c.st, .int .i64 x.c.lf, .slice y1 x.c.tk.length d1, .slice y2 x.q.length d2, .slice y3 x.t.length d3, .slice y4 x.d.length d4, .slice y5 x.g.length d5, .int .i64 x.s, .int .i64 0] 50 (0, 0)) → Out R2 (R2 + 1) W w' → ∃ v, a1_.put none undef = a1_.put none v ∧ CA w R1 R2 w2.heap.size BX x w' ∧ RA R2 w2.heap.size x W w' ∧ TA R1 R2 w2.heap.size x a1 a2 a3 a4 a5 c1 c2 c3 c4 c5 20 w' v := fun w' hg ho => by
    have hlo : ∀ k, w2.heap.size ≤ k → k < W.heap.size → w'.heap[k]? = W.heap[k]? := fun k p q => ho.block k q (by omega)
    have hF : FinA R2 w2.heap.size x w' := ⟨y1, y2, y3, y4, y5, d1, d2, d3, d4, d5, hg, r.stay ho.size hlo⟩
    have hne : R1 ≠ R2 := HNE.out
    exact ⟨undef, rfl, ⟨ho.below hC.below hR2w hC.below.size, (ho.block R1 (Array.getElem?_eq_some_iff.1 hC.box).1 (by omega)).trans hC.box, .inr hF, Nat.le_trans hC.lo_ ho.size⟩, ⟨ho.size, hlo, .inr hF⟩, hF⟩
   rcases hC.res with hq | ⟨z1, z2, z3, z4, z5, f1, f2, f3, f4, f5, hq, -⟩
   ·exact ob_put_row 50 (.tmp 2) (.tmp 22) rfl R2 e2 _ e1 _ rfl 50 _ _ hq (by kernel_rfl) (by kernel_rfl) (by kernel_rfl) (by kernel_rfl) hfin
   ·exact ob_put_row 50 (.tmp 2) (.tmp 22) rfl R2 e2 _ e1 _ rfl 50 _ _ hq (by kernel_rfl) (by kernel_rfl) (by kernel_rfl) (by kernel_rfl) hfin
 ·intro vs W hC hT
  obtain ⟨y1, y2, y3, y4, y5, d1, d2, d3, d4, d5, hq, hr⟩ : FinA R2 w2.heap.size x W := hT 20 (by decide)
  simp only [fillL, if_true, Act.put, List.setIfInBounds_toArray, List.set_cons_zero, List.set_cons_succ]
  have HF := Lib.hid hq
  have HBf := Lib.hid hC.below
  have HNw := Lib.hid ((hr.new hC.lo_).wide hw2 (Nat.le_refl _))
  clear hC hT hq hr
  go_wp2_with fail
  exact bodyPost_ret (results_cell_row (p := 2) (ty := 50) (by kernel_rfl) _ _ (R2) 50 _ (0, 0) _ rfl HF.out Tryz.underlying50 rfl (by kernel_rfl)) rfl ⟨y1, y2, y3, y4, y5, d1, d2, d3, d4, d5, rfl, HNw.out, HBf.out⟩
end Go.Proofs.YtioldepgoodipaaGreat
namespace Go.Proofs.YtioldepgoodipaaGreat
open Go.RowKit
set_option linter.unusedVariables false

def ndZ : Nd := ⟨⟨⟨0, 0, 0, 0, 0, 0, 0, false⟩, 0, 0, 0, []⟩, [], [], [], [], 0⟩
theorem ndZ_new {lo : Nat} {W : World} (h : lo ≤ W.heap.size) : NdNew lo W.heap.size W none none none none none ndZ :=
 Rows5.new ⟨.inl rfl, .inl rfl, .inl rfl, .inl rfl, .inl rfl⟩ h
set_option maxRecDepth 100000 in
set_option maxHeartbeats 32000000 in
theorem l10Ill_any (c : Int) (w : World) :
  Calls Tryz.prog 30 #[.int .i64 c] w fun e w' => e = .returned (.agg #[.int .i64 0, .int .i64 0, .int .i64 0, .int .i64 0, .int .i64 0, .int .i64 0, .int .i64 0, .bool false, .int .i64 0, .int .i64 0, .int .i64 0, .slice none 0 0, .slice none 0 0, .slice none 0 0, .slice none 0 0, .slice none 0 0, .int .i64 0, .int .i64 c]) ∧ Below w.heap.size w w' := by
 go_enter Tryz.func30, Tryz.ntmps30
 go_wp2_with (first
  | (refine wpList_alloc_h rfl 50 rfl (.agg #[.int .i64 0, .int .i64 0, .int .i64 0, .int .i64 0, .int .i64 0, .int .i64 0, .int .i64 0, .bool false, .int .i64 0, .int .i64 0, .int .i64 0, .slice none 0 0, .slice none 0 0, .slice none 0 0, .slice none 0 0, .slice none 0 0, .int .i64 0, .int .i64 0]) (by kernel_rfl) #[.int .i64 0, .int .i64 0, .int .i64 0, .int .i64 0, .int .i64 0, .int .i64 0, .int .i64 0, .bool false, .int .i64 0, .int .i64 0, .int .i64 0, .slice none 0 0, .slice none 0 0, .slice none 0 0, .slice none 0 0, .slice none 0 0, .int .i64 0, .int .i64 0] rfl ?_; intro w1 R1 e1 g1 b1; have HL1 := Lib.hid (show Lg w w1 [(R1, (qE6), 50)] [] from (Lg.first w).box e1 g1 b1); clear g1 b1 e1)
  | (refine wpList_put_at rfl 50 (.tmp 2) (.tmp 4) rfl rfl (R1) 0 rfl _ rfl #[.int .i64 0, .int .i64 0, .int .i64 0, .int .i64 0, .int .i64 0, .int .i64 0, .int .i64 0, .bool false, .int .i64 0, .int .i64 0, .int .i64 0, .slice none 0 0, .slice none 0 0, .slice none 0 0, .slice none 0 0, .slice none 0 0, .int .i64 0, .int .i64 c] rfl 50 (qE6) (qE7 c) (HL1.out.get (.head _)) (by kernel_rfl) (by kernel_rfl) (by kernel_rfl) (by kernel_rfl) ?_; intro w2 g2 o2; have HL2 := Lib.hid (show Lg w w2 [(R1, (qE7 c), 50)] [] from HL1.out.put 0 rfl g2 o2 (fun _ h => nomatch h) (fun _ h => nomatch h) rfl); clear g2 o2))
 exact bodyPost_ret (results_cell_row (p := 2) (ty := 50) (by kernel_rfl) _ _ (R1) 50 _ (0, 0) _ rfl (HL2.out.get (.head _)) Tryz.underlying50 rfl (by kernel_rfl)) rfl ⟨rfl, HL2.out.below⟩
end Go.Proofs.YtioldepgoodipaaGreat
