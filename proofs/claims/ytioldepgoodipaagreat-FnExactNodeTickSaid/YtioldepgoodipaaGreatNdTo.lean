/- Nodes: their size, a copy, alike, marked, read again by the laws' own functions. Nothing that was there is written, but what is marked. -/
import Derived.Test.YtioldepgoodipaaGreatNd
import Derived.Test.YtioldepgoodipaaGreatClaimTo
import Derived.Test.YtioldepgoodipaaGreatQueueTo
import Derived.Test.YtioldepgoodipaaGreatMarkCans
import Derived.Test.YtioldepgoodipaaGreatSesLaw
namespace Go.Proofs.YtioldepgoodipaaGreat
open Go.RowKit
set_option linter.unusedVariables false

theorem Out.span2 {lo hi lo2 hi2 : Nat} {w w2 : World} (h : Out lo hi w w2) (h1 : lo2 ≤ lo) (h2 : hi ≤ hi2) : Out lo2 hi2 w w2 := ⟨h.os, h.tape, h.output, h.size, fun k hk h3 => h.block k hk (by omega)⟩
/-- None of its lists, and no text in them, is longer than the laws ask. -/
def NdSmall (x : Nd) : Prop := x.c.tk.length ≤ 1048576 ∧ x.q.length ≤ 1048576 ∧ (x.t.length ≤ 1048576 ∧ ∀ i, i < x.t.length → (seAt x.t i).dt.size ≤ 1048576) ∧ x.d.length ≤ 1048576 ∧ (x.g.length ≤ 1048576 ∧ ∀ i, i < x.g.length → (gtAt x.g i).dt.size ≤ 1048576)
theorem szInt64S_nd (a : Option Addr) (cap n : Nat) (w : World) (hn : n ≤ maxLen) :
    Calls Tryz.prog 74 #[.slice a n cap, .int .i64 1048576] w fun e w' => ∃ k : Int, e = .returned (.int .i64 k) ∧ -1 ≤ k ∧ k ≤ 1048576 ∧ (0 ≤ k → n ≤ 1048576) ∧ Below w.heap.size w w' := by
  unfold maxLen at hn
  have hw : IntKind.i64.wrap (1048576 - (n : Int)) = 1048576 - n := IntWalk.i64_in _ (by omega)
  by_cases hbig : (1048576 : Int) < (n : Int)
  · have hd : decide ((1048576 : Int) - (n : Int) < 0) = true := decide_eq_true (by omega)
    go_enter Tryz.func74, Tryz.ntmps74
    go_wp2_with fail
    go_ret
    exact ⟨-1, rfl, by omega, by omega, fun q => absurd q (by omega), Below.refl _ _⟩
  · have hd : decide ((1048576 : Int) - (n : Int) < 0) = false := decide_eq_false (by omega)
    go_enter Tryz.func74, Tryz.ntmps74
    go_wp2_with fail
    go_ret
    exact ⟨_, rfl, by omega, by omega, fun _ => by omega, Below.refl _ _⟩
set_option maxRecDepth 100000 in
theorem szClaim_more (n : Nm) (ad st lf : Int) (a : Option Addr) (N cap : Nat) (w : World) (hn : N ≤ maxLen) :
    Calls Tryz.prog 25 #[clV n ad st lf (.slice a N cap), .int .i64 1048576] w fun e w' => ∃ m : Int, e = .returned (.int .i64 m) ∧ -1 ≤ m ∧ m ≤ 1048576 ∧ (0 ≤ m → N ≤ 1048576) ∧ Below w.heap.size w w' := by
  have HN := fun W => Lib.hid (szInt64S_nd a cap N W hn)
  obtain ⟨n0, n1, n2, n3, n4, n5, n6, n7⟩ := n
  unfold clV
  dsimp only
  clear hn
  go_enter Tryz.func25, Tryz.ntmps25
  go_wp2_with (first
    | (refine wpList_box_h rfl 26 (.tmp 0) rfl #[.int .i64 n0, .int .i64 n1, .int .i64 n2, .int .i64 n3, .int .i64 n4, .int .i64 n5, .int .i64 n6, .bool n7, .int .i64 ad, .int .i64 st, .int .i64 lf, .slice a N cap] rfl ?_; intro w1 R1 e1 g1 b1; have HL1 := Lib.hid (show Lg w w1 [(R1, #[.int .i64 n0, .int .i64 n1, .int .i64 n2, .int .i64 n3, .int .i64 n4, .int .i64 n5, .int .i64 n6, .bool n7, .int .i64 ad, .int .i64 st, .int .i64 lf, .slice a N cap], 26)] [] from (Lg.first w).box e1 g1 b1); clear g1 b1 e1)
    | (refine wpList_load_one rfl 24 (.tmp 5) rfl (R1) 11 rfl 26 #[.int .i64 n0, .int .i64 n1, .int .i64 n2, .int .i64 n3, .int .i64 n4, .int .i64 n5, .int .i64 n6, .bool n7, .int .i64 ad, .int .i64 st, .int .i64 lf, .slice a N cap] (0, 0) (HL1.out.get (.head _)) (.slice a N cap) rfl _ Tryz.underlying24 rfl (by kernel_rfl) ?_))
  refine ((HN _).out).mono ?_
  rintro e w2 ⟨m, rfl, hm0, hm1, hm2, h⟩
  have HL2 := Lib.hid (show Lg w w2 [(R1, #[.int .i64 n0, .int .i64 n1, .int .i64 n2, .int .i64 n3, .int .i64 n4, .int .i64 n5, .int .i64 n6, .bool n7, .int .i64 ad, .int .i64 st, .int .i64 lf, .slice a N cap], 26)] [] from HL1.out.kept h)
  clear h
  by_cases hneg : m < 0
  · have hd : decide (m < 0) = true := decide_eq_true hneg
    go_wp2_with fail
    go_ret
    exact ⟨-1, rfl, by omega, by omega, fun q => absurd q (by omega), HL2.out.below⟩
  have hd : decide (m < 0) = false := decide_eq_false hneg
  go_wp2_with fail
  go_ret
  exact ⟨m, rfl, hm0, hm1, hm2, HL2.out.below⟩
theorem szDeviceS_more (a : Option Addr) (cap n : Nat) (m : Int) (w : World) (hn : n ≤ maxLen) (h0 : 0 ≤ m) (h1 : m ≤ 1048576) :
    Calls Tryz.prog 28 #[.slice a n cap, .int .i64 m] w fun e w' => ∃ k : Int, e = .returned (.int .i64 k) ∧ -1 ≤ k ∧ k ≤ 1048576 ∧ (0 ≤ k → n ≤ 1048576) ∧ Below w.heap.size w w' := by
  unfold maxLen at hn
  have hw : IntKind.i64.wrap (m - (n : Int)) = m - n := IntWalk.i64_in _ (by omega)
  by_cases hbig : m < (n : Int)
  · have hd : decide (m - (n : Int) < 0) = true := decide_eq_true (by omega)
    go_enter Tryz.func28, Tryz.ntmps28
    go_wp2_with fail
    go_ret
    exact ⟨-1, rfl, by omega, by omega, fun q => absurd q (by omega), Below.refl _ _⟩
  · have hd : decide (m - (n : Int) < 0) = false := decide_eq_false (by omega)
    go_enter Tryz.func28, Tryz.ntmps28
    go_wp2_with fail
    go_ret
    exact ⟨_, rfl, by omega, by omega, fun _ => by omega, Below.refl _ _⟩
set_option maxRecDepth 100000 in
set_option maxHeartbeats 1000000 in
theorem szSessionS_more (a : Option Addr) (cap : Nat) (l : List Se) (m0 : Int) (w : World) (h : RsIn seL 7 w a l) (hok : ∀ i, i < l.length → (seAt l i).dt.size ≤ maxLen) (hlen : l.length ≤ maxLen) (hm0 : 0 ≤ m0) (hm1 : m0 ≤ 1048576) :
    Calls Tryz.prog 27 #[.slice a l.length cap, .int .i64 m0] w fun e w' => ∃ m : Int, e = .returned (.int .i64 m) ∧ -1 ≤ m ∧ m ≤ 1048576 ∧ (0 ≤ m → l.length ≤ 1048576 ∧ ∀ i, i < l.length → (seAt l i).dt.size ≤ 1048576) ∧ Below w.heap.size w w' := by
  unfold maxLen at hlen
  by_cases hbig : m0 < l.length
  · have hd : decide (m0 - (l.length : Int) < 0) = true := decide_eq_true (by omega)
    have hw : IntKind.i64.wrap (m0 - (l.length : Int)) = m0 - l.length := IntWalk.i64_in _ (by omega)
    go_enter Tryz.func27, Tryz.ntmps27
    go_wp2_with fail
    go_ret
    exact ⟨-1, rfl, by omega, by omega, fun q => absurd q (by omega), Below.refl _ _⟩
  · have hd : decide (m0 - (l.length : Int) < 0) = false := decide_eq_false (by omega)
    have hw : IntKind.i64.wrap (m0 - (l.length : Int)) = m0 - l.length := IntWalk.i64_in _ (by omega)
    obtain ⟨M, hM⟩ : ∃ M : Int, m0 - (l.length : Int) = M := ⟨_, rfl⟩
    rw [hM] at hd hw
    have hM1 : 0 ≤ M ∧ M ≤ 1048576 := by omega
    have HI := Lib.hid h
    have HK := Lib.hid hok
    clear h hok
    obtain ⟨N, hN⟩ : ∃ N, l.length = N := ⟨_, rfl⟩
    have HN := Lib.hid hN
    rw [hN] at hbig hM ⊢
    have hlN : N ≤ 1048576 := by omega
    clear hN hlen
    go_enter Tryz.func27, Tryz.ntmps27
    go_wp2_with fail
    go_loopw [1, 5] (fun u i wr => ∃ (k : Nat) (m : Int), i = .int .i64 (k : Int) ∧ u = .int .i64 m ∧ k ≤ N ∧ 0 ≤ m ∧ m ≤ 1048576 ∧ (∀ i, i < k → (seAt l i).dt.size ≤ 1048576) ∧ Below w.heap.size w wr) (fun _ i _ => N - (intOf i).toNat)
    case atStart => exact ⟨0, M, rfl, rfl, by omega, hM1.1, hM1.2, fun i hi => absurd hi (by omega), Below.refl _ _⟩
    case round =>
      obtain ⟨k, m, rfl, rfl, hk, hm0, hm1, hall, hb⟩ := hrel
      have HA := Lib.hid hall
      clear hall
      by_cases hkn : k < N
      · have hkl : k < l.length := by have := HN.out; omega
        obtain ⟨b, o, rfl, hlt, hc⟩ := HI.out.at (by omega)
        have HCs := Lib.hid (fun j v hv => (hb.cell (p := ⟨b, _, none⟩) hlt).trans (hc k _ (seAt_some hkl) j v hv))
        have hg := HK.out k hkl
        have hbs := hb.size
        have hi1 : (0 : Int) ≤ (k : Int) := by omega
        have hi2 : (k : Int) < (N : Int) := by omega
        have HG := Lib.hid hg
        have HA2 := Lib.hid (show (seAt l k).dt.size ≤ 1048576 → ∀ i, i < k + 1 → (seAt l i).dt.size ≤ 1048576 from fun h i hi => by
          rcases Nat.lt_or_ge i k with h' | h'
          · exact HA.out i h'
          · rw [show i = k by omega]; exact h)
        clear hc hg HA
        generalize seAt l k = x at *
        have HC := fun W => Lib.hid (szSession_any x m W hm0 hm1 HG.out)
        by_cases hneg : m - x.dt.size < 0
        · rw [if_pos hneg] at HC
          have e0 : decide ((-1 : Int) < 0) = true := by decide
          go_wp2_with (refine wpList_load_cells rfl 135 (.tmp 20) rfl b (o + k * 7) rfl (seL x) HCs.out _ Tryz.underlying135 rfl (by kernel_rfl) ?_)
          refine (HC _).out.mono ?_
          rintro e w1 ⟨rfl, h1⟩
          go_wp2_with fail
          go_ret
          exact ⟨-1, rfl, by omega, by omega, fun q => absurd q (by omega), hb.trans (h1.mono hbs)⟩
        · rw [if_neg hneg] at HC
          have hs := HA2.out (by omega)
          have HA3 := Lib.hid hs
          clear hs HA2
          obtain ⟨m', hm'⟩ : ∃ m' : Int, m - x.dt.size = m' := ⟨_, rfl⟩
          rw [hm'] at HC
          have hm2 : 0 ≤ m' ∧ m' ≤ 1048576 := by omega
          clear hm' hneg
          have e0 : decide (m' < 0) = false := decide_eq_false (by omega)
          go_wp2_with (refine wpList_load_cells rfl 135 (.tmp 20) rfl b (o + k * 7) rfl (seL x) HCs.out _ Tryz.underlying135 rfl (by kernel_rfl) ?_)
          refine (HC _).out.mono ?_
          rintro e w1 ⟨rfl, h1⟩
          go_wp2_with fail
          go_roundw
          case rel => exact ⟨k + 1, m', by go_num, rfl, by omega, hm2.1, hm2.2, HA3.out, hb.trans (h1.mono hbs)⟩
          case measure => simp [intOf]; omega
      · have HA2 := Lib.hid (show ∀ i, i < N → (seAt l i).dt.size ≤ 1048576 from fun i hi => HA.out i (by omega))
        clear HA
        go_wp2_with fail
        go_ret
        exact ⟨m, rfl, by omega, hm1, fun _ => ⟨by omega, HA2.out⟩, hb⟩
set_option maxRecDepth 100000 in
set_option maxHeartbeats 8000000 in
theorem szNode_any (x : Nd) (a1 a2 a3 a4 a5 : Option Addr) (c1 c2 c3 c4 c5 : Nat) (w : World) (h : NdIn w a1 a2 a3 a4 a5 x) (hok : CansOk x.q ∧ SesOk x.t ∧ (∀ y ∈ x.g, GtOk y)) (hlen : x.c.tk.length ≤ maxLen ∧ x.q.length ≤ maxLen ∧ x.t.length ≤ maxLen ∧ x.d.length ≤ maxLen ∧ x.g.length ≤ maxLen) :
    Calls Tryz.prog 6 #[ndV x a1 a2 a3 a4 a5 c1 c2 c3 c4 c5, .int .i64 1048576] w fun e w' => ∃ m : Int, e = .returned (.int .i64 m) ∧ -1 ≤ m ∧ m ≤ 1048576 ∧ (0 ≤ m → NdSmall x) ∧ Below w.heap.size w w' := by
  unfold NdSmall
  obtain ⟨⟨⟨n0, n1, n2, n3, n4, n5, n6, n7⟩, ad, st, lf, tk⟩, q, t, d, g, sq⟩ := x
  unfold ndV
  dsimp only at *
  obtain ⟨i1, i2, i3, i4, i5⟩ := h
  obtain ⟨o1, o2, o3⟩ := hok
  obtain ⟨g1, g2, g3, g4, g5⟩ := hlen
  dsimp only at *
  have HI2 := Lib.hid i2
  have HI3 := Lib.hid i3
  have HI5 := Lib.hid i5
  have HC1 := fun W => Lib.hid (szClaim_more ⟨n0, n1, n2, n3, n4, n5, n6, n7⟩ ad st lf a1 tk.length c1 W g1)
  have HC2 := fun W m h h0 h1 => Lib.hid (szQueue_any a2 c2 q m W h o1 g2 h0 h1)
  have HC3 := fun W m h h0 h1 => Lib.hid (szSessionS_more a3 c3 t m W h (fun i hi => (seAt_ok o2 hi).2.2.2.2.2.1) g3 h0 h1)
  have HC4 := fun W m h0 h1 => Lib.hid (szDeviceS_more a4 c4 d.length m W g4 h0 h1)
  have HC5 := fun W m h h0 h1 => Lib.hid (szGotS_more a5 c5 g m W h (fun i hi => (o3 _ (by have := gtAt_some hi; exact List.mem_of_getElem? this)).2.2) g5 h0 h1)
  unfold clV at HC1
  dsimp only at HC1
  clear i1 i2 i3 i4 i5 o1 o2 o3 g1 g2 g3 g4 g5
  generalize eN1 : tk.length = N1 at *
  generalize eN2 : q.length = N2 at *
  generalize eN3 : t.length = N3 at *
  generalize eN4 : d.length = N4 at *
  generalize eN5 : g.length = N5 at *
  clear eN1 eN2 eN3 eN4 eN5
  go_enter Tryz.func6, Tryz.ntmps6
  go_wp2_with (first
    | (refine wpList_box_h rfl 34 (.tmp 0) rfl #[.int .i64 n0, .int .i64 n1, .int .i64 n2, .int .i64 n3, .int .i64 n4, .int .i64 n5, .int .i64 n6, .bool n7, .int .i64 ad, .int .i64 st, .int .i64 lf, .slice a1 N1 c1, .slice a2 N2 c2, .slice a3 N3 c3, .slice a4 N4 c4, .slice a5 N5 c5, .int .i64 sq] rfl ?_; intro w1 R1 e1 g1 b1; have HL1 := Lib.hid (show Lg w w1 [(R1, #[.int .i64 n0, .int .i64 n1, .int .i64 n2, .int .i64 n3, .int .i64 n4, .int .i64 n5, .int .i64 n6, .bool n7, .int .i64 ad, .int .i64 st, .int .i64 lf, .slice a1 N1 c1, .slice a2 N2 c2, .slice a3 N3 c3, .slice a4 N4 c4, .slice a5 N5 c5, .int .i64 sq], 34)] [] from (Lg.first w).box e1 g1 b1); clear g1 b1 e1)
    | (refine wpList_load_at rfl 26 (.tmp 5) rfl (R1) 0 rfl 34 #[.int .i64 n0, .int .i64 n1, .int .i64 n2, .int .i64 n3, .int .i64 n4, .int .i64 n5, .int .i64 n6, .bool n7, .int .i64 ad, .int .i64 st, .int .i64 lf, .slice a1 N1 c1, .slice a2 N2 c2, .slice a3 N3 c3, .slice a4 N4 c4, .slice a5 N5 c5, .int .i64 sq] (0, 0) (HL1.out.get (.head _)) [.int .i64 n0, .int .i64 n1, .int .i64 n2, .int .i64 n3, .int .i64 n4, .int .i64 n5, .int .i64 n6, .bool n7, .int .i64 ad, .int .i64 st, .int .i64 lf, .slice a1 N1 c1] rfl _ Tryz.underlying26 rfl (by kernel_rfl) ?_))
  refine ((HC1 _).out).mono ?_
  rintro e w2 ⟨m1, rfl, hm1a, hm1b, hm1c, h⟩
  have HL2 := Lib.hid (show Lg w w2 [(R1, #[.int .i64 n0, .int .i64 n1, .int .i64 n2, .int .i64 n3, .int .i64 n4, .int .i64 n5, .int .i64 n6, .bool n7, .int .i64 ad, .int .i64 st, .int .i64 lf, .slice a1 N1 c1, .slice a2 N2 c2, .slice a3 N3 c3, .slice a4 N4 c4, .slice a5 N5 c5, .int .i64 sq], 34)] [] from HL1.out.kept h)
  clear h
  by_cases hneg1 : m1 < 0
  · have hd : decide (m1 < 0) = true := decide_eq_true hneg1
    go_wp2_with fail
    go_ret
    exact ⟨-1, rfl, by omega, by omega, fun q => absurd q (by omega), HL2.out.below⟩
  have hd1 : decide (m1 < 0) = false := decide_eq_false hneg1
  go_wp2_with (first
    | (refine wpList_load_at rfl 29 (.tmp 11) rfl (R1) 12 rfl 34 #[.int .i64 n0, .int .i64 n1, .int .i64 n2, .int .i64 n3, .int .i64 n4, .int .i64 n5, .int .i64 n6, .bool n7, .int .i64 ad, .int .i64 st, .int .i64 lf, .slice a1 N1 c1, .slice a2 N2 c2, .slice a3 N3 c3, .slice a4 N4 c4, .slice a5 N5 c5, .int .i64 sq] (0, 0) (HL2.out.get (.head _)) [.slice a2 N2 c2] rfl _ Tryz.underlying29 rfl (by kernel_rfl) ?_))
  refine ((HC2 _ m1 (HI2.out.kept HL2.out.below) (by omega) hm1b).out).mono ?_
  rintro e w3 ⟨m2, rfl, hm2a, hm2b, hm2c, h⟩
  have HL3 := Lib.hid (show Lg w w3 [(R1, #[.int .i64 n0, .int .i64 n1, .int .i64 n2, .int .i64 n3, .int .i64 n4, .int .i64 n5, .int .i64 n6, .bool n7, .int .i64 ad, .int .i64 st, .int .i64 lf, .slice a1 N1 c1, .slice a2 N2 c2, .slice a3 N3 c3, .slice a4 N4 c4, .slice a5 N5 c5, .int .i64 sq], 34)] [] from HL2.out.kept h)
  clear h
  by_cases hneg2 : m2 < 0
  · have hd : decide (m2 < 0) = true := decide_eq_true hneg2
    go_wp2_with fail
    go_ret
    exact ⟨-1, rfl, by omega, by omega, fun q => absurd q (by omega), HL3.out.below⟩
  have hd2 : decide (m2 < 0) = false := decide_eq_false hneg2
  go_wp2_with (first
    | (refine wpList_load_one rfl 30 (.tmp 17) rfl (R1) 13 rfl 34 #[.int .i64 n0, .int .i64 n1, .int .i64 n2, .int .i64 n3, .int .i64 n4, .int .i64 n5, .int .i64 n6, .bool n7, .int .i64 ad, .int .i64 st, .int .i64 lf, .slice a1 N1 c1, .slice a2 N2 c2, .slice a3 N3 c3, .slice a4 N4 c4, .slice a5 N5 c5, .int .i64 sq] (0, 0) (HL3.out.get (.head _)) (.slice a3 N3 c3) rfl _ Tryz.underlying30 rfl (by kernel_rfl) ?_))
  refine ((HC3 _ m2 (HI3.out.kept HL3.out.below) (by omega) hm2b).out).mono ?_
  rintro e w4 ⟨m3, rfl, hm3a, hm3b, hm3c, h⟩
  have HL4 := Lib.hid (show Lg w w4 [(R1, #[.int .i64 n0, .int .i64 n1, .int .i64 n2, .int .i64 n3, .int .i64 n4, .int .i64 n5, .int .i64 n6, .bool n7, .int .i64 ad, .int .i64 st, .int .i64 lf, .slice a1 N1 c1, .slice a2 N2 c2, .slice a3 N3 c3, .slice a4 N4 c4, .slice a5 N5 c5, .int .i64 sq], 34)] [] from HL3.out.kept h)
  clear h
  by_cases hneg3 : m3 < 0
  · have hd : decide (m3 < 0) = true := decide_eq_true hneg3
    go_wp2_with fail
    go_ret
    exact ⟨-1, rfl, by omega, by omega, fun q => absurd q (by omega), HL4.out.below⟩
  have hd3 : decide (m3 < 0) = false := decide_eq_false hneg3
  go_wp2_with (first
    | (refine wpList_load_one rfl 31 (.tmp 23) rfl (R1) 14 rfl 34 #[.int .i64 n0, .int .i64 n1, .int .i64 n2, .int .i64 n3, .int .i64 n4, .int .i64 n5, .int .i64 n6, .bool n7, .int .i64 ad, .int .i64 st, .int .i64 lf, .slice a1 N1 c1, .slice a2 N2 c2, .slice a3 N3 c3, .slice a4 N4 c4, .slice a5 N5 c5, .int .i64 sq] (0, 0) (HL4.out.get (.head _)) (.slice a4 N4 c4) rfl _ Tryz.underlying31 rfl (by kernel_rfl) ?_))
  refine ((HC4 _ m3 (by omega) hm3b).out).mono ?_
  rintro e w5 ⟨m4, rfl, hm4a, hm4b, hm4c, h⟩
  have HL5 := Lib.hid (show Lg w w5 [(R1, #[.int .i64 n0, .int .i64 n1, .int .i64 n2, .int .i64 n3, .int .i64 n4, .int .i64 n5, .int .i64 n6, .bool n7, .int .i64 ad, .int .i64 st, .int .i64 lf, .slice a1 N1 c1, .slice a2 N2 c2, .slice a3 N3 c3, .slice a4 N4 c4, .slice a5 N5 c5, .int .i64 sq], 34)] [] from HL4.out.kept h)
  clear h
  by_cases hneg4 : m4 < 0
  · have hd : decide (m4 < 0) = true := decide_eq_true hneg4
    go_wp2_with fail
    go_ret
    exact ⟨-1, rfl, by omega, by omega, fun q => absurd q (by omega), HL5.out.below⟩
  have hd4 : decide (m4 < 0) = false := decide_eq_false hneg4
  go_wp2_with (first
    | (refine wpList_load_one rfl 32 (.tmp 29) rfl (R1) 15 rfl 34 #[.int .i64 n0, .int .i64 n1, .int .i64 n2, .int .i64 n3, .int .i64 n4, .int .i64 n5, .int .i64 n6, .bool n7, .int .i64 ad, .int .i64 st, .int .i64 lf, .slice a1 N1 c1, .slice a2 N2 c2, .slice a3 N3 c3, .slice a4 N4 c4, .slice a5 N5 c5, .int .i64 sq] (0, 0) (HL5.out.get (.head _)) (.slice a5 N5 c5) rfl _ Tryz.underlying32 rfl (by kernel_rfl) ?_))
  refine ((HC5 _ m4 (HI5.out.kept HL5.out.below) (by omega) hm4b).out).mono ?_
  rintro e w6 ⟨m5, rfl, hm5a, hm5b, hm5c, h⟩
  have HL6 := Lib.hid (show Lg w w6 [(R1, #[.int .i64 n0, .int .i64 n1, .int .i64 n2, .int .i64 n3, .int .i64 n4, .int .i64 n5, .int .i64 n6, .bool n7, .int .i64 ad, .int .i64 st, .int .i64 lf, .slice a1 N1 c1, .slice a2 N2 c2, .slice a3 N3 c3, .slice a4 N4 c4, .slice a5 N5 c5, .int .i64 sq], 34)] [] from HL5.out.kept h)
  clear h
  by_cases hneg5 : m5 < 0
  · have hd : decide (m5 < 0) = true := decide_eq_true hneg5
    go_wp2_with fail
    go_ret
    exact ⟨-1, rfl, by omega, by omega, fun q => absurd q (by omega), HL6.out.below⟩
  have hd5 : decide (m5 < 0) = false := decide_eq_false hneg5
  go_wp2_with fail
  go_ret
  exact ⟨m5, rfl, hm5a, hm5b, fun _ => ⟨hm1c (by omega), hm2c (by omega), hm3c (by omega), hm4c (by omega), hm5c (by omega)⟩, HL6.out.below⟩
set_option maxRecDepth 100000 in
set_option maxHeartbeats 8000000 in
theorem toNode_new (x : Nd) (a1 a2 a3 a4 a5 : Option Addr) (c1 c2 c3 c4 c5 : Nat) (w : World) (h : NdIn w a1 a2 a3 a4 a5 x) (hs : NdSmall x) :
    Calls Tryz.prog 9 #[ndV x a1 a2 a3 a4 a5 c1 c2 c3 c4 c5] w fun e w' => ∃ y1 y2 y3 y4 y5 : Option Addr, e = .returned (ndV x y1 y2 y3 y4 y5 x.c.tk.length x.q.length x.t.length x.d.length x.g.length) ∧ NdNew w.heap.size w'.heap.size w' y1 y2 y3 y4 y5 x ∧ Below w.heap.size w w' := by
  unfold NdSmall at hs
  obtain ⟨⟨⟨n0, n1, n2, n3, n4, n5, n6, n7⟩, ad, st, lf, tk⟩, q, t, d, g, sq⟩ := x
  unfold ndV
  dsimp only at *
  obtain ⟨i1, i2, i3, i4, i5⟩ := h
  obtain ⟨s1, s2, ⟨s3, -⟩, s4, s5, -⟩ := hs
  dsimp only at *
  have HI1 := Lib.hid i1
  have HI2 := Lib.hid i2
  have HI3 := Lib.hid i3
  have HI4 := Lib.hid i4
  have HI5 := Lib.hid i5
  have HC1 := fun W h => Lib.hid (toClaim_new ⟨n0, n1, n2, n3, n4, n5, n6, n7⟩ ad st lf a1 c1 tk W h s1)
  have HC2 := fun W h => Lib.hid (toQueue_new a2 c2 q W h s2)
  have HC3 := fun W h => Lib.hid (toSes_new a3 c3 t W h s3)
  have HC4 := fun W h => Lib.hid (toDeviceS_new a4 c4 d W h s4)
  have HC5 := fun W h => Lib.hid (toGotS_new a5 c5 g W h s5)
  unfold clV at HC1
  dsimp only at HC1
  clear i1 i2 i3 i4 i5 s1 s2 s3 s4 s5
  generalize eN1 : tk.length = N1 at *
  generalize eN2 : q.length = N2 at *
  generalize eN3 : t.length = N3 at *
  generalize eN4 : d.length = N4 at *
  generalize eN5 : g.length = N5 at *
  have HEN := Lib.hid (And.intro eN1 (And.intro eN2 (And.intro eN3 (And.intro eN4 eN5))))
  clear eN1 eN2 eN3 eN4 eN5
  go_enter Tryz.func9, Tryz.ntmps9
  go_wp2_with (first
    | (refine wpList_box_h rfl 34 (.tmp 0) rfl #[.int .i64 n0, .int .i64 n1, .int .i64 n2, .int .i64 n3, .int .i64 n4, .int .i64 n5, .int .i64 n6, .bool n7, .int .i64 ad, .int .i64 st, .int .i64 lf, .slice a1 N1 c1, .slice a2 N2 c2, .slice a3 N3 c3, .slice a4 N4 c4, .slice a5 N5 c5, .int .i64 sq] rfl ?_; intro w1 R1 e1 g1 b1; have HL1 := Lib.hid (show Lg w w1 [(R1, #[.int .i64 n0, .int .i64 n1, .int .i64 n2, .int .i64 n3, .int .i64 n4, .int .i64 n5, .int .i64 n6, .bool n7, .int .i64 ad, .int .i64 st, .int .i64 lf, .slice a1 N1 c1, .slice a2 N2 c2, .slice a3 N3 c3, .slice a4 N4 c4, .slice a5 N5 c5, .int .i64 sq], 34)] [] from (Lg.first w).box e1 g1 b1); clear g1 b1 e1)
    | (refine wpList_alloc_h rfl 48 rfl (.agg #[.int .i64 0, .int .i64 0, .int .i64 0, .int .i64 0, .int .i64 0, .int .i64 0, .int .i64 0, .bool false, .int .i64 0, .int .i64 0, .int .i64 0, .slice none 0 0, .slice none 0 0, .slice none 0 0, .slice none 0 0, .slice none 0 0, .int .i64 0]) (by kernel_rfl) #[.int .i64 0, .int .i64 0, .int .i64 0, .int .i64 0, .int .i64 0, .int .i64 0, .int .i64 0, .bool false, .int .i64 0, .int .i64 0, .int .i64 0, .slice none 0 0, .slice none 0 0, .slice none 0 0, .slice none 0 0, .slice none 0 0, .int .i64 0] rfl ?_; intro w2 R2 e2 g2 b2; have qR2_R1 : R1 < R2 := Nat.lt_of_lt_of_eq (HL1.out.lt (.head _)) e2; have HL2 := Lib.hid (show Lg w w2 [(R2, #[.int .i64 0, .int .i64 0, .int .i64 0, .int .i64 0, .int .i64 0, .int .i64 0, .int .i64 0, .bool false, .int .i64 0, .int .i64 0, .int .i64 0, .slice none 0 0, .slice none 0 0, .slice none 0 0, .slice none 0 0, .slice none 0 0, .int .i64 0], 48), (R1, #[.int .i64 n0, .int .i64 n1, .int .i64 n2, .int .i64 n3, .int .i64 n4, .int .i64 n5, .int .i64 n6, .bool n7, .int .i64 ad, .int .i64 st, .int .i64 lf, .slice a1 N1 c1, .slice a2 N2 c2, .slice a3 N3 c3, .slice a4 N4 c4, .slice a5 N5 c5, .int .i64 sq], 34)] [] from HL1.out.box e2 g2 b2); clear g2 b2 e2)
    | (refine wpList_alloc_h rfl 48 rfl (.agg #[.int .i64 0, .int .i64 0, .int .i64 0, .int .i64 0, .int .i64 0, .int .i64 0, .int .i64 0, .bool false, .int .i64 0, .int .i64 0, .int .i64 0, .slice none 0 0, .slice none 0 0, .slice none 0 0, .slice none 0 0, .slice none 0 0, .int .i64 0]) (by kernel_rfl) #[.int .i64 0, .int .i64 0, .int .i64 0, .int .i64 0, .int .i64 0, .int .i64 0, .int .i64 0, .bool false, .int .i64 0, .int .i64 0, .int .i64 0, .slice none 0 0, .slice none 0 0, .slice none 0 0, .slice none 0 0, .slice none 0 0, .int .i64 0] rfl ?_; intro w3 R3 e3 g3 b3; have qR3_R2 : R2 < R3 := Nat.lt_of_lt_of_eq (HL2.out.lt (.head _)) e3; have qR3_R1 : R1 < R3 := Nat.lt_of_lt_of_eq (HL2.out.lt (.tail _ (.head _))) e3; have HL3 := Lib.hid (show Lg w w3 [(R3, #[.int .i64 0, .int .i64 0, .int .i64 0, .int .i64 0, .int .i64 0, .int .i64 0, .int .i64 0, .bool false, .int .i64 0, .int .i64 0, .int .i64 0, .slice none 0 0, .slice none 0 0, .slice none 0 0, .slice none 0 0, .slice none 0 0, .int .i64 0], 48), (R2, #[.int .i64 0, .int .i64 0, .int .i64 0, .int .i64 0, .int .i64 0, .int .i64 0, .int .i64 0, .bool false, .int .i64 0, .int .i64 0, .int .i64 0, .slice none 0 0, .slice none 0 0, .slice none 0 0, .slice none 0 0, .slice none 0 0, .int .i64 0], 48), (R1, #[.int .i64 n0, .int .i64 n1, .int .i64 n2, .int .i64 n3, .int .i64 n4, .int .i64 n5, .int .i64 n6, .bool n7, .int .i64 ad, .int .i64 st, .int .i64 lf, .slice a1 N1 c1, .slice a2 N2 c2, .slice a3 N3 c3, .slice a4 N4 c4, .slice a5 N5 c5, .int .i64 sq], 34)] [] from HL2.out.box e3 g3 b3); clear g3 b3 e3)
    | (refine wpList_load_at rfl 26 (.tmp 4) rfl (R1) 0 rfl 34 #[.int .i64 n0, .int .i64 n1, .int .i64 n2, .int .i64 n3, .int .i64 n4, .int .i64 n5, .int .i64 n6, .bool n7, .int .i64 ad, .int .i64 st, .int .i64 lf, .slice a1 N1 c1, .slice a2 N2 c2, .slice a3 N3 c3, .slice a4 N4 c4, .slice a5 N5 c5, .int .i64 sq] (0, 0) (HL3.out.get (.tail _ (.tail _ (.head _)))) [.int .i64 n0, .int .i64 n1, .int .i64 n2, .int .i64 n3, .int .i64 n4, .int .i64 n5, .int .i64 n6, .bool n7, .int .i64 ad, .int .i64 st, .int .i64 lf, .slice a1 N1 c1] rfl _ Tryz.underlying26 rfl (by kernel_rfl) ?_))
  refine ((HC1 _ (HI1.out.kept HL3.out.below)).out).mono ?_
  rintro e w4 ⟨g4, rfl, hn, h⟩
  obtain ⟨L4, e4⟩ : ∃ x, w3.heap.size = x := ⟨_, rfl⟩
  obtain ⟨H4, f4⟩ : ∃ x, w4.heap.size = x := ⟨_, rfl⟩
  have qL4_R3 : R3 < L4 := Nat.lt_of_lt_of_eq (HL3.out.lt (.head _)) e4
  have qL4_R2 : R2 < L4 := Nat.lt_of_lt_of_eq (HL3.out.lt (.tail _ (.head _))) e4
  have qL4_R1 : R1 < L4 := Nat.lt_of_lt_of_eq (HL3.out.lt (.tail _ (.tail _ (.head _)))) e4
  have qH4_L4 : L4 ≤ H4 := (by rw [← e4, ← f4]; exact h.size)
  have HL4 := Lib.hid (show Lg w w4 [(R3, #[.int .i64 0, .int .i64 0, .int .i64 0, .int .i64 0, .int .i64 0, .int .i64 0, .int .i64 0, .bool false, .int .i64 0, .int .i64 0, .int .i64 0, .slice none 0 0, .slice none 0 0, .slice none 0 0, .slice none 0 0, .slice none 0 0, .int .i64 0], 48), (R2, #[.int .i64 0, .int .i64 0, .int .i64 0, .int .i64 0, .int .i64 0, .int .i64 0, .int .i64 0, .bool false, .int .i64 0, .int .i64 0, .int .i64 0, .slice none 0 0, .slice none 0 0, .slice none 0 0, .slice none 0 0, .slice none 0 0, .int .i64 0], 48), (R1, #[.int .i64 n0, .int .i64 n1, .int .i64 n2, .int .i64 n3, .int .i64 n4, .int .i64 n5, .int .i64 n6, .bool n7, .int .i64 ad, .int .i64 st, .int .i64 lf, .slice a1 N1 c1, .slice a2 N2 c2, .slice a3 N3 c3, .slice a4 N4 c4, .slice a5 N5 c5, .int .i64 sq], 34)] [(L4, H4, fun W => NumsNew L4 H4 W (some ⟨g4, 0, none⟩) tk)] from HL3.out.made e4 f4 h (by rw [← e4, ← f4]; exact hn.solid))
  clear h hn e4 f4
  go_wp2_with (first
    | (refine wpList_put_at rfl 40 (.tmp 7) (.tmp 6) rfl rfl (R3) 0 rfl (.agg #[.int .i64 n0, .int .i64 n1, .int .i64 n2, .int .i64 n3, .int .i64 n4, .int .i64 n5, .int .i64 n6, .bool n7, .int .i64 ad, .int .i64 st, .int .i64 lf, .slice (some ⟨g4, 0, none⟩) N1 N1]) rfl #[.int .i64 n0, .int .i64 n1, .int .i64 n2, .int .i64 n3, .int .i64 n4, .int .i64 n5, .int .i64 n6, .bool n7, .int .i64 ad, .int .i64 st, .int .i64 lf, .slice (some ⟨g4, 0, none⟩) N1 N1] rfl 48 #[.int .i64 0, .int .i64 0, .int .i64 0, .int .i64 0, .int .i64 0, .int .i64 0, .int .i64 0, .bool false, .int .i64 0, .int .i64 0, .int .i64 0, .slice none 0 0, .slice none 0 0, .slice none 0 0, .slice none 0 0, .slice none 0 0, .int .i64 0] #[.int .i64 n0, .int .i64 n1, .int .i64 n2, .int .i64 n3, .int .i64 n4, .int .i64 n5, .int .i64 n6, .bool n7, .int .i64 ad, .int .i64 st, .int .i64 lf, .slice (some ⟨g4, 0, none⟩) N1 N1, .slice none 0 0, .slice none 0 0, .slice none 0 0, .slice none 0 0, .int .i64 0] (HL4.out.get (.head _)) (by kernel_rfl) (by kernel_rfl) (by kernel_rfl) (by kernel_rfl) ?_; intro w5 g5 o5; have HL5 := Lib.hid (show Lg w w5 [(R3, #[.int .i64 n0, .int .i64 n1, .int .i64 n2, .int .i64 n3, .int .i64 n4, .int .i64 n5, .int .i64 n6, .bool n7, .int .i64 ad, .int .i64 st, .int .i64 lf, .slice (some ⟨g4, 0, none⟩) N1 N1, .slice none 0 0, .slice none 0 0, .slice none 0 0, .slice none 0 0, .int .i64 0], 48), (R2, #[.int .i64 0, .int .i64 0, .int .i64 0, .int .i64 0, .int .i64 0, .int .i64 0, .int .i64 0, .bool false, .int .i64 0, .int .i64 0, .int .i64 0, .slice none 0 0, .slice none 0 0, .slice none 0 0, .slice none 0 0, .slice none 0 0, .int .i64 0], 48), (R1, #[.int .i64 n0, .int .i64 n1, .int .i64 n2, .int .i64 n3, .int .i64 n4, .int .i64 n5, .int .i64 n6, .bool n7, .int .i64 ad, .int .i64 st, .int .i64 lf, .slice a1 N1 c1, .slice a2 N2 c2, .slice a3 N3 c3, .slice a4 N4 c4, .slice a5 N5 c5, .int .i64 sq], 34)] [(L4, H4, fun W => NumsNew L4 H4 W (some ⟨g4, 0, none⟩) tk)] from HL4.out.put 0 rfl g5 o5 (List.forall_mem_cons.2 ⟨Nat.ne_of_lt qR3_R2, (List.forall_mem_cons.2 ⟨Nat.ne_of_lt qR3_R1, (fun _ h => nomatch h)⟩)⟩) (List.forall_mem_cons.2 ⟨.inr qL4_R3, (fun _ h => nomatch h)⟩) rfl); clear g5 o5)
    | (refine wpList_load_at rfl 29 (.tmp 8) rfl (R1) 12 rfl 34 #[.int .i64 n0, .int .i64 n1, .int .i64 n2, .int .i64 n3, .int .i64 n4, .int .i64 n5, .int .i64 n6, .bool n7, .int .i64 ad, .int .i64 st, .int .i64 lf, .slice a1 N1 c1, .slice a2 N2 c2, .slice a3 N3 c3, .slice a4 N4 c4, .slice a5 N5 c5, .int .i64 sq] (0, 0) (HL5.out.get (.tail _ (.tail _ (.head _)))) [.slice a2 N2 c2] rfl _ Tryz.underlying29 rfl (by kernel_rfl) ?_))
  refine ((HC2 _ (HI2.out.kept HL5.out.below)).out).mono ?_
  rintro e w6 ⟨g6, rfl, hn, h⟩
  obtain ⟨L6, e6⟩ : ∃ x, w5.heap.size = x := ⟨_, rfl⟩
  obtain ⟨H6, f6⟩ : ∃ x, w6.heap.size = x := ⟨_, rfl⟩
  have qL6_R3 : R3 < L6 := Nat.lt_of_lt_of_eq (HL5.out.lt (.head _)) e6
  have qL6_R2 : R2 < L6 := Nat.lt_of_lt_of_eq (HL5.out.lt (.tail _ (.head _))) e6
  have qL6_R1 : R1 < L6 := Nat.lt_of_lt_of_eq (HL5.out.lt (.tail _ (.tail _ (.head _)))) e6
  have qL6_H4 : H4 ≤ L6 := Nat.le_trans (HL5.out.hi (.head _)).2 (Nat.le_of_eq e6)
  have qH6_L6 : L6 ≤ H6 := (by rw [← e6, ← f6]; exact h.size)
  have HL6 := Lib.hid (show Lg w w6 [(R3, #[.int .i64 n0, .int .i64 n1, .int .i64 n2, .int .i64 n3, .int .i64 n4, .int .i64 n5, .int .i64 n6, .bool n7, .int .i64 ad, .int .i64 st, .int .i64 lf, .slice (some ⟨g4, 0, none⟩) N1 N1, .slice none 0 0, .slice none 0 0, .slice none 0 0, .slice none 0 0, .int .i64 0], 48), (R2, #[.int .i64 0, .int .i64 0, .int .i64 0, .int .i64 0, .int .i64 0, .int .i64 0, .int .i64 0, .bool false, .int .i64 0, .int .i64 0, .int .i64 0, .slice none 0 0, .slice none 0 0, .slice none 0 0, .slice none 0 0, .slice none 0 0, .int .i64 0], 48), (R1, #[.int .i64 n0, .int .i64 n1, .int .i64 n2, .int .i64 n3, .int .i64 n4, .int .i64 n5, .int .i64 n6, .bool n7, .int .i64 ad, .int .i64 st, .int .i64 lf, .slice a1 N1 c1, .slice a2 N2 c2, .slice a3 N3 c3, .slice a4 N4 c4, .slice a5 N5 c5, .int .i64 sq], 34)] [(L6, H6, fun W => NewIn L6 H6 W (some ⟨g6, 0, none⟩) q), (L4, H4, fun W => NumsNew L4 H4 W (some ⟨g4, 0, none⟩) tk)] from HL5.out.made e6 f6 h (by rw [← e6, ← f6]; exact hn.solid))
  clear h hn e6 f6
  go_wp2_with (first
    | (refine wpList_put_at rfl 43 (.tmp 11) (.tmp 10) rfl rfl (R3) 12 rfl (.agg #[.slice (some ⟨g6, 0, none⟩) N2 N2]) rfl #[.slice (some ⟨g6, 0, none⟩) N2 N2] rfl 48 #[.int .i64 n0, .int .i64 n1, .int .i64 n2, .int .i64 n3, .int .i64 n4, .int .i64 n5, .int .i64 n6, .bool n7, .int .i64 ad, .int .i64 st, .int .i64 lf, .slice (some ⟨g4, 0, none⟩) N1 N1, .slice none 0 0, .slice none 0 0, .slice none 0 0, .slice none 0 0, .int .i64 0] #[.int .i64 n0, .int .i64 n1, .int .i64 n2, .int .i64 n3, .int .i64 n4, .int .i64 n5, .int .i64 n6, .bool n7, .int .i64 ad, .int .i64 st, .int .i64 lf, .slice (some ⟨g4, 0, none⟩) N1 N1, .slice (some ⟨g6, 0, none⟩) N2 N2, .slice none 0 0, .slice none 0 0, .slice none 0 0, .int .i64 0] (HL6.out.get (.head _)) (by kernel_rfl) (by kernel_rfl) (by kernel_rfl) (by kernel_rfl) ?_; intro w7 g7 o7; have HL7 := Lib.hid (show Lg w w7 [(R3, #[.int .i64 n0, .int .i64 n1, .int .i64 n2, .int .i64 n3, .int .i64 n4, .int .i64 n5, .int .i64 n6, .bool n7, .int .i64 ad, .int .i64 st, .int .i64 lf, .slice (some ⟨g4, 0, none⟩) N1 N1, .slice (some ⟨g6, 0, none⟩) N2 N2, .slice none 0 0, .slice none 0 0, .slice none 0 0, .int .i64 0], 48), (R2, #[.int .i64 0, .int .i64 0, .int .i64 0, .int .i64 0, .int .i64 0, .int .i64 0, .int .i64 0, .bool false, .int .i64 0, .int .i64 0, .int .i64 0, .slice none 0 0, .slice none 0 0, .slice none 0 0, .slice none 0 0, .slice none 0 0, .int .i64 0], 48), (R1, #[.int .i64 n0, .int .i64 n1, .int .i64 n2, .int .i64 n3, .int .i64 n4, .int .i64 n5, .int .i64 n6, .bool n7, .int .i64 ad, .int .i64 st, .int .i64 lf, .slice a1 N1 c1, .slice a2 N2 c2, .slice a3 N3 c3, .slice a4 N4 c4, .slice a5 N5 c5, .int .i64 sq], 34)] [(L6, H6, fun W => NewIn L6 H6 W (some ⟨g6, 0, none⟩) q), (L4, H4, fun W => NumsNew L4 H4 W (some ⟨g4, 0, none⟩) tk)] from HL6.out.put 0 rfl g7 o7 (List.forall_mem_cons.2 ⟨Nat.ne_of_lt qR3_R2, (List.forall_mem_cons.2 ⟨Nat.ne_of_lt qR3_R1, (fun _ h => nomatch h)⟩)⟩) (List.forall_mem_cons.2 ⟨.inr qL6_R3, (List.forall_mem_cons.2 ⟨.inr qL4_R3, (fun _ h => nomatch h)⟩)⟩) rfl); clear g7 o7)
    | (refine wpList_load_one rfl 30 (.tmp 12) rfl (R1) 13 rfl 34 #[.int .i64 n0, .int .i64 n1, .int .i64 n2, .int .i64 n3, .int .i64 n4, .int .i64 n5, .int .i64 n6, .bool n7, .int .i64 ad, .int .i64 st, .int .i64 lf, .slice a1 N1 c1, .slice a2 N2 c2, .slice a3 N3 c3, .slice a4 N4 c4, .slice a5 N5 c5, .int .i64 sq] (0, 0) (HL7.out.get (.tail _ (.tail _ (.head _)))) (.slice a3 N3 c3) rfl _ Tryz.underlying30 rfl (by kernel_rfl) ?_))
  refine ((HC3 _ (HI3.out.kept HL7.out.below)).out).mono ?_
  rintro e w8 ⟨a8, rfl, hn, h⟩
  obtain ⟨L8, e8⟩ : ∃ x, w7.heap.size = x := ⟨_, rfl⟩
  obtain ⟨H8, f8⟩ : ∃ x, w8.heap.size = x := ⟨_, rfl⟩
  have qL8_R3 : R3 < L8 := Nat.lt_of_lt_of_eq (HL7.out.lt (.head _)) e8
  have qL8_R2 : R2 < L8 := Nat.lt_of_lt_of_eq (HL7.out.lt (.tail _ (.head _))) e8
  have qL8_R1 : R1 < L8 := Nat.lt_of_lt_of_eq (HL7.out.lt (.tail _ (.tail _ (.head _)))) e8
  have qL8_H6 : H6 ≤ L8 := Nat.le_trans (HL7.out.hi (.head _)).2 (Nat.le_of_eq e8)
  have qL8_H4 : H4 ≤ L8 := Nat.le_trans (HL7.out.hi (.tail _ (.head _))).2 (Nat.le_of_eq e8)
  have qH8_L8 : L8 ≤ H8 := (by rw [← e8, ← f8]; exact h.size)
  have HL8 := Lib.hid (show Lg w w8 [(R3, #[.int .i64 n0, .int .i64 n1, .int .i64 n2, .int .i64 n3, .int .i64 n4, .int .i64 n5, .int .i64 n6, .bool n7, .int .i64 ad, .int .i64 st, .int .i64 lf, .slice (some ⟨g4, 0, none⟩) N1 N1, .slice (some ⟨g6, 0, none⟩) N2 N2, .slice none 0 0, .slice none 0 0, .slice none 0 0, .int .i64 0], 48), (R2, #[.int .i64 0, .int .i64 0, .int .i64 0, .int .i64 0, .int .i64 0, .int .i64 0, .int .i64 0, .bool false, .int .i64 0, .int .i64 0, .int .i64 0, .slice none 0 0, .slice none 0 0, .slice none 0 0, .slice none 0 0, .slice none 0 0, .int .i64 0], 48), (R1, #[.int .i64 n0, .int .i64 n1, .int .i64 n2, .int .i64 n3, .int .i64 n4, .int .i64 n5, .int .i64 n6, .bool n7, .int .i64 ad, .int .i64 st, .int .i64 lf, .slice a1 N1 c1, .slice a2 N2 c2, .slice a3 N3 c3, .slice a4 N4 c4, .slice a5 N5 c5, .int .i64 sq], 34)] [(L8, H8, fun W => RsNew seL 7 159 L8 H8 W a8 t), (L6, H6, fun W => NewIn L6 H6 W (some ⟨g6, 0, none⟩) q), (L4, H4, fun W => NumsNew L4 H4 W (some ⟨g4, 0, none⟩) tk)] from HL7.out.made e8 f8 h (by rw [← e8, ← f8]; exact hn.solid))
  clear h hn e8 f8
  go_wp2_with (first
    | (refine wpList_put_at rfl 44 (.tmp 15) (.tmp 14) rfl rfl (R3) 13 rfl (.slice a8 N3 N3) rfl #[.slice a8 N3 N3] rfl 48 #[.int .i64 n0, .int .i64 n1, .int .i64 n2, .int .i64 n3, .int .i64 n4, .int .i64 n5, .int .i64 n6, .bool n7, .int .i64 ad, .int .i64 st, .int .i64 lf, .slice (some ⟨g4, 0, none⟩) N1 N1, .slice (some ⟨g6, 0, none⟩) N2 N2, .slice none 0 0, .slice none 0 0, .slice none 0 0, .int .i64 0] #[.int .i64 n0, .int .i64 n1, .int .i64 n2, .int .i64 n3, .int .i64 n4, .int .i64 n5, .int .i64 n6, .bool n7, .int .i64 ad, .int .i64 st, .int .i64 lf, .slice (some ⟨g4, 0, none⟩) N1 N1, .slice (some ⟨g6, 0, none⟩) N2 N2, .slice a8 N3 N3, .slice none 0 0, .slice none 0 0, .int .i64 0] (HL8.out.get (.head _)) (by kernel_rfl) (by kernel_rfl) (by kernel_rfl) (by kernel_rfl) ?_; intro w9 g9 o9; have HL9 := Lib.hid (show Lg w w9 [(R3, #[.int .i64 n0, .int .i64 n1, .int .i64 n2, .int .i64 n3, .int .i64 n4, .int .i64 n5, .int .i64 n6, .bool n7, .int .i64 ad, .int .i64 st, .int .i64 lf, .slice (some ⟨g4, 0, none⟩) N1 N1, .slice (some ⟨g6, 0, none⟩) N2 N2, .slice a8 N3 N3, .slice none 0 0, .slice none 0 0, .int .i64 0], 48), (R2, #[.int .i64 0, .int .i64 0, .int .i64 0, .int .i64 0, .int .i64 0, .int .i64 0, .int .i64 0, .bool false, .int .i64 0, .int .i64 0, .int .i64 0, .slice none 0 0, .slice none 0 0, .slice none 0 0, .slice none 0 0, .slice none 0 0, .int .i64 0], 48), (R1, #[.int .i64 n0, .int .i64 n1, .int .i64 n2, .int .i64 n3, .int .i64 n4, .int .i64 n5, .int .i64 n6, .bool n7, .int .i64 ad, .int .i64 st, .int .i64 lf, .slice a1 N1 c1, .slice a2 N2 c2, .slice a3 N3 c3, .slice a4 N4 c4, .slice a5 N5 c5, .int .i64 sq], 34)] [(L8, H8, fun W => RsNew seL 7 159 L8 H8 W a8 t), (L6, H6, fun W => NewIn L6 H6 W (some ⟨g6, 0, none⟩) q), (L4, H4, fun W => NumsNew L4 H4 W (some ⟨g4, 0, none⟩) tk)] from HL8.out.put 0 rfl g9 o9 (List.forall_mem_cons.2 ⟨Nat.ne_of_lt qR3_R2, (List.forall_mem_cons.2 ⟨Nat.ne_of_lt qR3_R1, (fun _ h => nomatch h)⟩)⟩) (List.forall_mem_cons.2 ⟨.inr qL8_R3, (List.forall_mem_cons.2 ⟨.inr qL6_R3, (List.forall_mem_cons.2 ⟨.inr qL4_R3, (fun _ h => nomatch h)⟩)⟩)⟩) rfl); clear g9 o9)
    | (refine wpList_load_one rfl 31 (.tmp 16) rfl (R1) 14 rfl 34 #[.int .i64 n0, .int .i64 n1, .int .i64 n2, .int .i64 n3, .int .i64 n4, .int .i64 n5, .int .i64 n6, .bool n7, .int .i64 ad, .int .i64 st, .int .i64 lf, .slice a1 N1 c1, .slice a2 N2 c2, .slice a3 N3 c3, .slice a4 N4 c4, .slice a5 N5 c5, .int .i64 sq] (0, 0) (HL9.out.get (.tail _ (.tail _ (.head _)))) (.slice a4 N4 c4) rfl _ Tryz.underlying31 rfl (by kernel_rfl) ?_))
  refine ((HC4 _ (HI4.out.kept HL9.out.below)).out).mono ?_
  rintro e w10 ⟨a10, rfl, hn, h⟩
  obtain ⟨L10, e10⟩ : ∃ x, w9.heap.size = x := ⟨_, rfl⟩
  obtain ⟨H10, f10⟩ : ∃ x, w10.heap.size = x := ⟨_, rfl⟩
  have qL10_R3 : R3 < L10 := Nat.lt_of_lt_of_eq (HL9.out.lt (.head _)) e10
  have qL10_R2 : R2 < L10 := Nat.lt_of_lt_of_eq (HL9.out.lt (.tail _ (.head _))) e10
  have qL10_R1 : R1 < L10 := Nat.lt_of_lt_of_eq (HL9.out.lt (.tail _ (.tail _ (.head _)))) e10
  have qL10_H8 : H8 ≤ L10 := Nat.le_trans (HL9.out.hi (.head _)).2 (Nat.le_of_eq e10)
  have qL10_H6 : H6 ≤ L10 := Nat.le_trans (HL9.out.hi (.tail _ (.head _))).2 (Nat.le_of_eq e10)
  have qL10_H4 : H4 ≤ L10 := Nat.le_trans (HL9.out.hi (.tail _ (.tail _ (.head _)))).2 (Nat.le_of_eq e10)
  have qH10_L10 : L10 ≤ H10 := (by rw [← e10, ← f10]; exact h.size)
  have HL10 := Lib.hid (show Lg w w10 [(R3, #[.int .i64 n0, .int .i64 n1, .int .i64 n2, .int .i64 n3, .int .i64 n4, .int .i64 n5, .int .i64 n6, .bool n7, .int .i64 ad, .int .i64 st, .int .i64 lf, .slice (some ⟨g4, 0, none⟩) N1 N1, .slice (some ⟨g6, 0, none⟩) N2 N2, .slice a8 N3 N3, .slice none 0 0, .slice none 0 0, .int .i64 0], 48), (R2, #[.int .i64 0, .int .i64 0, .int .i64 0, .int .i64 0, .int .i64 0, .int .i64 0, .int .i64 0, .bool false, .int .i64 0, .int .i64 0, .int .i64 0, .slice none 0 0, .slice none 0 0, .slice none 0 0, .slice none 0 0, .slice none 0 0, .int .i64 0], 48), (R1, #[.int .i64 n0, .int .i64 n1, .int .i64 n2, .int .i64 n3, .int .i64 n4, .int .i64 n5, .int .i64 n6, .bool n7, .int .i64 ad, .int .i64 st, .int .i64 lf, .slice a1 N1 c1, .slice a2 N2 c2, .slice a3 N3 c3, .slice a4 N4 c4, .slice a5 N5 c5, .int .i64 sq], 34)] [(L10, H10, fun W => RsNew dvL 10 162 L10 H10 W a10 d), (L8, H8, fun W => RsNew seL 7 159 L8 H8 W a8 t), (L6, H6, fun W => NewIn L6 H6 W (some ⟨g6, 0, none⟩) q), (L4, H4, fun W => NumsNew L4 H4 W (some ⟨g4, 0, none⟩) tk)] from HL9.out.made e10 f10 h (by rw [← e10, ← f10]; exact hn.solid))
  clear h hn e10 f10
  go_wp2_with (first
    | (refine wpList_put_at rfl 45 (.tmp 19) (.tmp 18) rfl rfl (R3) 14 rfl (.slice a10 N4 N4) rfl #[.slice a10 N4 N4] rfl 48 #[.int .i64 n0, .int .i64 n1, .int .i64 n2, .int .i64 n3, .int .i64 n4, .int .i64 n5, .int .i64 n6, .bool n7, .int .i64 ad, .int .i64 st, .int .i64 lf, .slice (some ⟨g4, 0, none⟩) N1 N1, .slice (some ⟨g6, 0, none⟩) N2 N2, .slice a8 N3 N3, .slice none 0 0, .slice none 0 0, .int .i64 0] #[.int .i64 n0, .int .i64 n1, .int .i64 n2, .int .i64 n3, .int .i64 n4, .int .i64 n5, .int .i64 n6, .bool n7, .int .i64 ad, .int .i64 st, .int .i64 lf, .slice (some ⟨g4, 0, none⟩) N1 N1, .slice (some ⟨g6, 0, none⟩) N2 N2, .slice a8 N3 N3, .slice a10 N4 N4, .slice none 0 0, .int .i64 0] (HL10.out.get (.head _)) (by kernel_rfl) (by kernel_rfl) (by kernel_rfl) (by kernel_rfl) ?_; intro w11 g11 o11; have HL11 := Lib.hid (show Lg w w11 [(R3, #[.int .i64 n0, .int .i64 n1, .int .i64 n2, .int .i64 n3, .int .i64 n4, .int .i64 n5, .int .i64 n6, .bool n7, .int .i64 ad, .int .i64 st, .int .i64 lf, .slice (some ⟨g4, 0, none⟩) N1 N1, .slice (some ⟨g6, 0, none⟩) N2 N2, .slice a8 N3 N3, .slice a10 N4 N4, .slice none 0 0, .int .i64 0], 48), (R2, #[.int .i64 0, .int .i64 0, .int .i64 0, .int .i64 0, .int .i64 0, .int .i64 0, .int .i64 0, .bool false, .int .i64 0, .int .i64 0, .int .i64 0, .slice none 0 0, .slice none 0 0, .slice none 0 0, .slice none 0 0, .slice none 0 0, .int .i64 0], 48), (R1, #[.int .i64 n0, .int .i64 n1, .int .i64 n2, .int .i64 n3, .int .i64 n4, .int .i64 n5, .int .i64 n6, .bool n7, .int .i64 ad, .int .i64 st, .int .i64 lf, .slice a1 N1 c1, .slice a2 N2 c2, .slice a3 N3 c3, .slice a4 N4 c4, .slice a5 N5 c5, .int .i64 sq], 34)] [(L10, H10, fun W => RsNew dvL 10 162 L10 H10 W a10 d), (L8, H8, fun W => RsNew seL 7 159 L8 H8 W a8 t), (L6, H6, fun W => NewIn L6 H6 W (some ⟨g6, 0, none⟩) q), (L4, H4, fun W => NumsNew L4 H4 W (some ⟨g4, 0, none⟩) tk)] from HL10.out.put 0 rfl g11 o11 (List.forall_mem_cons.2 ⟨Nat.ne_of_lt qR3_R2, (List.forall_mem_cons.2 ⟨Nat.ne_of_lt qR3_R1, (fun _ h => nomatch h)⟩)⟩) (List.forall_mem_cons.2 ⟨.inr qL10_R3, (List.forall_mem_cons.2 ⟨.inr qL8_R3, (List.forall_mem_cons.2 ⟨.inr qL6_R3, (List.forall_mem_cons.2 ⟨.inr qL4_R3, (fun _ h => nomatch h)⟩)⟩)⟩)⟩) rfl); clear g11 o11)
    | (refine wpList_load_one rfl 32 (.tmp 20) rfl (R1) 15 rfl 34 #[.int .i64 n0, .int .i64 n1, .int .i64 n2, .int .i64 n3, .int .i64 n4, .int .i64 n5, .int .i64 n6, .bool n7, .int .i64 ad, .int .i64 st, .int .i64 lf, .slice a1 N1 c1, .slice a2 N2 c2, .slice a3 N3 c3, .slice a4 N4 c4, .slice a5 N5 c5, .int .i64 sq] (0, 0) (HL11.out.get (.tail _ (.tail _ (.head _)))) (.slice a5 N5 c5) rfl _ Tryz.underlying32 rfl (by kernel_rfl) ?_))
  refine ((HC5 _ (HI5.out.kept HL11.out.below)).out).mono ?_
  rintro e w12 ⟨a12, rfl, hn, h⟩
  obtain ⟨L12, e12⟩ : ∃ x, w11.heap.size = x := ⟨_, rfl⟩
  obtain ⟨H12, f12⟩ : ∃ x, w12.heap.size = x := ⟨_, rfl⟩
  have qL12_R3 : R3 < L12 := Nat.lt_of_lt_of_eq (HL11.out.lt (.head _)) e12
  have qL12_R2 : R2 < L12 := Nat.lt_of_lt_of_eq (HL11.out.lt (.tail _ (.head _))) e12
  have qL12_R1 : R1 < L12 := Nat.lt_of_lt_of_eq (HL11.out.lt (.tail _ (.tail _ (.head _)))) e12
  have qL12_H10 : H10 ≤ L12 := Nat.le_trans (HL11.out.hi (.head _)).2 (Nat.le_of_eq e12)
  have qL12_H8 : H8 ≤ L12 := Nat.le_trans (HL11.out.hi (.tail _ (.head _))).2 (Nat.le_of_eq e12)
  have qL12_H6 : H6 ≤ L12 := Nat.le_trans (HL11.out.hi (.tail _ (.tail _ (.head _)))).2 (Nat.le_of_eq e12)
  have qL12_H4 : H4 ≤ L12 := Nat.le_trans (HL11.out.hi (.tail _ (.tail _ (.tail _ (.head _))))).2 (Nat.le_of_eq e12)
  have qH12_L12 : L12 ≤ H12 := (by rw [← e12, ← f12]; exact h.size)
  have HL12 := Lib.hid (show Lg w w12 [(R3, #[.int .i64 n0, .int .i64 n1, .int .i64 n2, .int .i64 n3, .int .i64 n4, .int .i64 n5, .int .i64 n6, .bool n7, .int .i64 ad, .int .i64 st, .int .i64 lf, .slice (some ⟨g4, 0, none⟩) N1 N1, .slice (some ⟨g6, 0, none⟩) N2 N2, .slice a8 N3 N3, .slice a10 N4 N4, .slice none 0 0, .int .i64 0], 48), (R2, #[.int .i64 0, .int .i64 0, .int .i64 0, .int .i64 0, .int .i64 0, .int .i64 0, .int .i64 0, .bool false, .int .i64 0, .int .i64 0, .int .i64 0, .slice none 0 0, .slice none 0 0, .slice none 0 0, .slice none 0 0, .slice none 0 0, .int .i64 0], 48), (R1, #[.int .i64 n0, .int .i64 n1, .int .i64 n2, .int .i64 n3, .int .i64 n4, .int .i64 n5, .int .i64 n6, .bool n7, .int .i64 ad, .int .i64 st, .int .i64 lf, .slice a1 N1 c1, .slice a2 N2 c2, .slice a3 N3 c3, .slice a4 N4 c4, .slice a5 N5 c5, .int .i64 sq], 34)] [(L12, H12, fun W => RsNew gtL 3 144 L12 H12 W a12 g), (L10, H10, fun W => RsNew dvL 10 162 L10 H10 W a10 d), (L8, H8, fun W => RsNew seL 7 159 L8 H8 W a8 t), (L6, H6, fun W => NewIn L6 H6 W (some ⟨g6, 0, none⟩) q), (L4, H4, fun W => NumsNew L4 H4 W (some ⟨g4, 0, none⟩) tk)] from HL11.out.made e12 f12 h (by rw [← e12, ← f12]; exact hn.solid))
  clear h hn e12 f12
  go_wp2_with (first
    | (refine wpList_put_at rfl 46 (.tmp 23) (.tmp 22) rfl rfl (R3) 15 rfl (.slice a12 N5 N5) rfl #[.slice a12 N5 N5] rfl 48 #[.int .i64 n0, .int .i64 n1, .int .i64 n2, .int .i64 n3, .int .i64 n4, .int .i64 n5, .int .i64 n6, .bool n7, .int .i64 ad, .int .i64 st, .int .i64 lf, .slice (some ⟨g4, 0, none⟩) N1 N1, .slice (some ⟨g6, 0, none⟩) N2 N2, .slice a8 N3 N3, .slice a10 N4 N4, .slice none 0 0, .int .i64 0] #[.int .i64 n0, .int .i64 n1, .int .i64 n2, .int .i64 n3, .int .i64 n4, .int .i64 n5, .int .i64 n6, .bool n7, .int .i64 ad, .int .i64 st, .int .i64 lf, .slice (some ⟨g4, 0, none⟩) N1 N1, .slice (some ⟨g6, 0, none⟩) N2 N2, .slice a8 N3 N3, .slice a10 N4 N4, .slice a12 N5 N5, .int .i64 0] (HL12.out.get (.head _)) (by kernel_rfl) (by kernel_rfl) (by kernel_rfl) (by kernel_rfl) ?_; intro w13 g13 o13; have HL13 := Lib.hid (show Lg w w13 [(R3, #[.int .i64 n0, .int .i64 n1, .int .i64 n2, .int .i64 n3, .int .i64 n4, .int .i64 n5, .int .i64 n6, .bool n7, .int .i64 ad, .int .i64 st, .int .i64 lf, .slice (some ⟨g4, 0, none⟩) N1 N1, .slice (some ⟨g6, 0, none⟩) N2 N2, .slice a8 N3 N3, .slice a10 N4 N4, .slice a12 N5 N5, .int .i64 0], 48), (R2, #[.int .i64 0, .int .i64 0, .int .i64 0, .int .i64 0, .int .i64 0, .int .i64 0, .int .i64 0, .bool false, .int .i64 0, .int .i64 0, .int .i64 0, .slice none 0 0, .slice none 0 0, .slice none 0 0, .slice none 0 0, .slice none 0 0, .int .i64 0], 48), (R1, #[.int .i64 n0, .int .i64 n1, .int .i64 n2, .int .i64 n3, .int .i64 n4, .int .i64 n5, .int .i64 n6, .bool n7, .int .i64 ad, .int .i64 st, .int .i64 lf, .slice a1 N1 c1, .slice a2 N2 c2, .slice a3 N3 c3, .slice a4 N4 c4, .slice a5 N5 c5, .int .i64 sq], 34)] [(L12, H12, fun W => RsNew gtL 3 144 L12 H12 W a12 g), (L10, H10, fun W => RsNew dvL 10 162 L10 H10 W a10 d), (L8, H8, fun W => RsNew seL 7 159 L8 H8 W a8 t), (L6, H6, fun W => NewIn L6 H6 W (some ⟨g6, 0, none⟩) q), (L4, H4, fun W => NumsNew L4 H4 W (some ⟨g4, 0, none⟩) tk)] from HL12.out.put 0 rfl g13 o13 (List.forall_mem_cons.2 ⟨Nat.ne_of_lt qR3_R2, (List.forall_mem_cons.2 ⟨Nat.ne_of_lt qR3_R1, (fun _ h => nomatch h)⟩)⟩) (List.forall_mem_cons.2 ⟨.inr qL12_R3, (List.forall_mem_cons.2 ⟨.inr qL10_R3, (List.forall_mem_cons.2 ⟨.inr qL8_R3, (List.forall_mem_cons.2 ⟨.inr qL6_R3, (List.forall_mem_cons.2 ⟨.inr qL4_R3, (fun _ h => nomatch h)⟩)⟩)⟩)⟩)⟩) rfl); clear g13 o13)
    | (refine wpList_load_one rfl 2 (.tmp 24) rfl (R1) 16 rfl 34 #[.int .i64 n0, .int .i64 n1, .int .i64 n2, .int .i64 n3, .int .i64 n4, .int .i64 n5, .int .i64 n6, .bool n7, .int .i64 ad, .int .i64 st, .int .i64 lf, .slice a1 N1 c1, .slice a2 N2 c2, .slice a3 N3 c3, .slice a4 N4 c4, .slice a5 N5 c5, .int .i64 sq] (0, 0) (HL13.out.get (.tail _ (.tail _ (.head _)))) (.int .i64 sq) rfl _ Tryz.underlying2 rfl (by kernel_rfl) ?_)
    | (refine wpList_put_at rfl 2 (.tmp 26) (.tmp 25) rfl rfl (R3) 16 rfl (.int .i64 sq) rfl #[.int .i64 sq] rfl 48 #[.int .i64 n0, .int .i64 n1, .int .i64 n2, .int .i64 n3, .int .i64 n4, .int .i64 n5, .int .i64 n6, .bool n7, .int .i64 ad, .int .i64 st, .int .i64 lf, .slice (some ⟨g4, 0, none⟩) N1 N1, .slice (some ⟨g6, 0, none⟩) N2 N2, .slice a8 N3 N3, .slice a10 N4 N4, .slice a12 N5 N5, .int .i64 0] #[.int .i64 n0, .int .i64 n1, .int .i64 n2, .int .i64 n3, .int .i64 n4, .int .i64 n5, .int .i64 n6, .bool n7, .int .i64 ad, .int .i64 st, .int .i64 lf, .slice (some ⟨g4, 0, none⟩) N1 N1, .slice (some ⟨g6, 0, none⟩) N2 N2, .slice a8 N3 N3, .slice a10 N4 N4, .slice a12 N5 N5, .int .i64 sq] (HL13.out.get (.head _)) (by kernel_rfl) (by kernel_rfl) (by kernel_rfl) (by kernel_rfl) ?_; intro w14 g14 o14; have HL14 := Lib.hid (show Lg w w14 [(R3, #[.int .i64 n0, .int .i64 n1, .int .i64 n2, .int .i64 n3, .int .i64 n4, .int .i64 n5, .int .i64 n6, .bool n7, .int .i64 ad, .int .i64 st, .int .i64 lf, .slice (some ⟨g4, 0, none⟩) N1 N1, .slice (some ⟨g6, 0, none⟩) N2 N2, .slice a8 N3 N3, .slice a10 N4 N4, .slice a12 N5 N5, .int .i64 sq], 48), (R2, #[.int .i64 0, .int .i64 0, .int .i64 0, .int .i64 0, .int .i64 0, .int .i64 0, .int .i64 0, .bool false, .int .i64 0, .int .i64 0, .int .i64 0, .slice none 0 0, .slice none 0 0, .slice none 0 0, .slice none 0 0, .slice none 0 0, .int .i64 0], 48), (R1, #[.int .i64 n0, .int .i64 n1, .int .i64 n2, .int .i64 n3, .int .i64 n4, .int .i64 n5, .int .i64 n6, .bool n7, .int .i64 ad, .int .i64 st, .int .i64 lf, .slice a1 N1 c1, .slice a2 N2 c2, .slice a3 N3 c3, .slice a4 N4 c4, .slice a5 N5 c5, .int .i64 sq], 34)] [(L12, H12, fun W => RsNew gtL 3 144 L12 H12 W a12 g), (L10, H10, fun W => RsNew dvL 10 162 L10 H10 W a10 d), (L8, H8, fun W => RsNew seL 7 159 L8 H8 W a8 t), (L6, H6, fun W => NewIn L6 H6 W (some ⟨g6, 0, none⟩) q), (L4, H4, fun W => NumsNew L4 H4 W (some ⟨g4, 0, none⟩) tk)] from HL13.out.put 0 rfl g14 o14 (List.forall_mem_cons.2 ⟨Nat.ne_of_lt qR3_R2, (List.forall_mem_cons.2 ⟨Nat.ne_of_lt qR3_R1, (fun _ h => nomatch h)⟩)⟩) (List.forall_mem_cons.2 ⟨.inr qL12_R3, (List.forall_mem_cons.2 ⟨.inr qL10_R3, (List.forall_mem_cons.2 ⟨.inr qL8_R3, (List.forall_mem_cons.2 ⟨.inr qL6_R3, (List.forall_mem_cons.2 ⟨.inr qL4_R3, (fun _ h => nomatch h)⟩)⟩)⟩)⟩)⟩) rfl); clear g14 o14)
    | (refine wpList_load_at rfl 48 (.tmp 3) rfl (R3) 0 rfl 48 #[.int .i64 n0, .int .i64 n1, .int .i64 n2, .int .i64 n3, .int .i64 n4, .int .i64 n5, .int .i64 n6, .bool n7, .int .i64 ad, .int .i64 st, .int .i64 lf, .slice (some ⟨g4, 0, none⟩) N1 N1, .slice (some ⟨g6, 0, none⟩) N2 N2, .slice a8 N3 N3, .slice a10 N4 N4, .slice a12 N5 N5, .int .i64 sq] (0, 0) (HL14.out.get (.head _)) [.int .i64 n0, .int .i64 n1, .int .i64 n2, .int .i64 n3, .int .i64 n4, .int .i64 n5, .int .i64 n6, .bool n7, .int .i64 ad, .int .i64 st, .int .i64 lf, .slice (some ⟨g4, 0, none⟩) N1 N1, .slice (some ⟨g6, 0, none⟩) N2 N2, .slice a8 N3 N3, .slice a10 N4 N4, .slice a12 N5 N5, .int .i64 sq] rfl _ Tryz.underlying48 rfl (by kernel_rfl) ?_)
    | (refine wpList_put_at rfl 48 (.tmp 2) (.tmp 27) rfl rfl (R2) 0 rfl (.agg #[.int .i64 n0, .int .i64 n1, .int .i64 n2, .int .i64 n3, .int .i64 n4, .int .i64 n5, .int .i64 n6, .bool n7, .int .i64 ad, .int .i64 st, .int .i64 lf, .slice (some ⟨g4, 0, none⟩) N1 N1, .slice (some ⟨g6, 0, none⟩) N2 N2, .slice a8 N3 N3, .slice a10 N4 N4, .slice a12 N5 N5, .int .i64 sq]) rfl #[.int .i64 n0, .int .i64 n1, .int .i64 n2, .int .i64 n3, .int .i64 n4, .int .i64 n5, .int .i64 n6, .bool n7, .int .i64 ad, .int .i64 st, .int .i64 lf, .slice (some ⟨g4, 0, none⟩) N1 N1, .slice (some ⟨g6, 0, none⟩) N2 N2, .slice a8 N3 N3, .slice a10 N4 N4, .slice a12 N5 N5, .int .i64 sq] rfl 48 #[.int .i64 0, .int .i64 0, .int .i64 0, .int .i64 0, .int .i64 0, .int .i64 0, .int .i64 0, .bool false, .int .i64 0, .int .i64 0, .int .i64 0, .slice none 0 0, .slice none 0 0, .slice none 0 0, .slice none 0 0, .slice none 0 0, .int .i64 0] #[.int .i64 n0, .int .i64 n1, .int .i64 n2, .int .i64 n3, .int .i64 n4, .int .i64 n5, .int .i64 n6, .bool n7, .int .i64 ad, .int .i64 st, .int .i64 lf, .slice (some ⟨g4, 0, none⟩) N1 N1, .slice (some ⟨g6, 0, none⟩) N2 N2, .slice a8 N3 N3, .slice a10 N4 N4, .slice a12 N5 N5, .int .i64 sq] (HL14.out.get (.tail _ (.head _))) (by kernel_rfl) (by kernel_rfl) (by kernel_rfl) (by kernel_rfl) ?_; intro w15 g15 o15; have HL15 := Lib.hid (show Lg w w15 [(R3, #[.int .i64 n0, .int .i64 n1, .int .i64 n2, .int .i64 n3, .int .i64 n4, .int .i64 n5, .int .i64 n6, .bool n7, .int .i64 ad, .int .i64 st, .int .i64 lf, .slice (some ⟨g4, 0, none⟩) N1 N1, .slice (some ⟨g6, 0, none⟩) N2 N2, .slice a8 N3 N3, .slice a10 N4 N4, .slice a12 N5 N5, .int .i64 sq], 48), (R2, #[.int .i64 n0, .int .i64 n1, .int .i64 n2, .int .i64 n3, .int .i64 n4, .int .i64 n5, .int .i64 n6, .bool n7, .int .i64 ad, .int .i64 st, .int .i64 lf, .slice (some ⟨g4, 0, none⟩) N1 N1, .slice (some ⟨g6, 0, none⟩) N2 N2, .slice a8 N3 N3, .slice a10 N4 N4, .slice a12 N5 N5, .int .i64 sq], 48), (R1, #[.int .i64 n0, .int .i64 n1, .int .i64 n2, .int .i64 n3, .int .i64 n4, .int .i64 n5, .int .i64 n6, .bool n7, .int .i64 ad, .int .i64 st, .int .i64 lf, .slice a1 N1 c1, .slice a2 N2 c2, .slice a3 N3 c3, .slice a4 N4 c4, .slice a5 N5 c5, .int .i64 sq], 34)] [(L12, H12, fun W => RsNew gtL 3 144 L12 H12 W a12 g), (L10, H10, fun W => RsNew dvL 10 162 L10 H10 W a10 d), (L8, H8, fun W => RsNew seL 7 159 L8 H8 W a8 t), (L6, H6, fun W => NewIn L6 H6 W (some ⟨g6, 0, none⟩) q), (L4, H4, fun W => NumsNew L4 H4 W (some ⟨g4, 0, none⟩) tk)] from HL14.out.put 1 rfl g15 o15 (List.forall_mem_cons.2 ⟨Nat.ne_of_gt qR3_R2, (List.forall_mem_cons.2 ⟨Nat.ne_of_lt qR2_R1, (fun _ h => nomatch h)⟩)⟩) (List.forall_mem_cons.2 ⟨.inr qL12_R2, (List.forall_mem_cons.2 ⟨.inr qL10_R2, (List.forall_mem_cons.2 ⟨.inr qL8_R2, (List.forall_mem_cons.2 ⟨.inr qL6_R2, (List.forall_mem_cons.2 ⟨.inr qL4_R2, (fun _ h => nomatch h)⟩)⟩)⟩)⟩)⟩) rfl); clear g15 o15))
  have hfin : NdNew w.heap.size w15.heap.size w15 (some ⟨g4, 0, none⟩) (some ⟨g6, 0, none⟩) a8 a10 a12 ⟨⟨⟨n0, n1, n2, n3, n4, n5, n6, n7⟩, ad, st, lf, tk⟩, q, t, d, g, sq⟩ := ⟨L4, H4, L6, H6, L8, H8, L10, H10, L12, H12, ⟨HL15.out.lo (.tail _ (.tail _ (.tail _ (.tail _ (.head _))))), (HL15.out.hi (.tail _ (.tail _ (.tail _ (.tail _ (.head _)))))).1, (HL15.out.hi (.tail _ (.tail _ (.tail _ (.tail _ (.head _)))))).2⟩, ⟨HL15.out.lo (.tail _ (.tail _ (.tail _ (.head _)))), (HL15.out.hi (.tail _ (.tail _ (.tail _ (.head _))))).1, (HL15.out.hi (.tail _ (.tail _ (.tail _ (.head _))))).2⟩, ⟨HL15.out.lo (.tail _ (.tail _ (.head _))), (HL15.out.hi (.tail _ (.tail _ (.head _)))).1, (HL15.out.hi (.tail _ (.tail _ (.head _)))).2⟩, ⟨HL15.out.lo (.tail _ (.head _)), (HL15.out.hi (.tail _ (.head _))).1, (HL15.out.hi (.tail _ (.head _))).2⟩, ⟨HL15.out.lo (.head _), (HL15.out.hi (.head _)).1, (HL15.out.hi (.head _)).2⟩, .inl qL6_H4, .inl qL8_H4, .inl qL10_H4, .inl qL12_H4, .inl qL8_H6, .inl qL10_H6, .inl qL12_H6, .inl qL10_H8, .inl qL12_H8, .inl qL12_H10, HL15.out.at (.tail _ (.tail _ (.tail _ (.tail _ (.head _))))), HL15.out.at (.tail _ (.tail _ (.tail _ (.head _)))), HL15.out.at (.tail _ (.tail _ (.head _))), HL15.out.at (.tail _ (.head _)), HL15.out.at (.head _)⟩
  exact bodyPost_ret (results_cell_row (p := 2) (ty := 48) (by kernel_rfl) _ _ (R2) 48 _ (0, 0) _ rfl (HL15.out.get (.tail _ (.head _))) Tryz.underlying48 rfl (by kernel_rfl)) rfl ⟨some ⟨g4, 0, none⟩, some ⟨g6, 0, none⟩, a8, a10, a12, rfl, hfin, HL15.out.below⟩
set_option maxRecDepth 100000 in
set_option maxHeartbeats 8000000 in
theorem eqNode_same (x : Nd) (a1 a2 a3 a4 a5 y1 y2 y3 y4 y5 : Option Addr) (c1 c2 c3 c4 c5 z1 z2 z3 z4 z5 : Nat) (w : World) (h : NdIn w a1 a2 a3 a4 a5 x) (h' : NdIn w y1 y2 y3 y4 y5 x) (hs : NdSmall x) :
    Calls Tryz.prog 13 #[ndV x a1 a2 a3 a4 a5 c1 c2 c3 c4 c5, ndV x y1 y2 y3 y4 y5 z1 z2 z3 z4 z5] w fun e w' => e = .returned (.bool true) ∧ Below w.heap.size w w' := by
  unfold NdSmall at hs
  obtain ⟨⟨⟨n0, n1, n2, n3, n4, n5, n6, n7⟩, ad, st, lf, tk⟩, q, t, d, g, sq⟩ := x
  unfold ndV
  dsimp only at *
  obtain ⟨i1, i2, i3, i4, i5⟩ := h
  obtain ⟨j1, j2, j3, j4, j5⟩ := h'
  obtain ⟨s1, s2, ⟨s3, -⟩, s4, s5, -⟩ := hs
  dsimp only at *
  have HI1 := Lib.hid i1
  have HJ1 := Lib.hid j1
  have HI2 := Lib.hid i2
  have HJ2 := Lib.hid j2
  have HI3 := Lib.hid i3
  have HJ3 := Lib.hid j3
  have HI4 := Lib.hid i4
  have HJ4 := Lib.hid j4
  have HI5 := Lib.hid i5
  have HJ5 := Lib.hid j5
  have HC1 := fun W h h' => Lib.hid (eqClaim_same ⟨n0, n1, n2, n3, n4, n5, n6, n7⟩ ad st lf a1 y1 c1 z1 tk W h h' s1)
  have HC2 := fun W h h' => Lib.hid (eqQueue_same a2 y2 c2 z2 q W h h' s2)
  have HC3 := fun W h h' => Lib.hid (eqSessionS_same a3 y3 c3 z3 t W h h' s3)
  have HC4 := fun W h h' => Lib.hid (eqDeviceS_same a4 y4 c4 z4 d W h h' s4)
  have HC5 := fun W h h' => Lib.hid (eqGotS_same a5 y5 c5 z5 g W h h' s5)
  unfold clV at HC1
  dsimp only at HC1
  clear i1 i2 i3 i4 i5 j1 j2 j3 j4 j5 s1 s2 s3 s4 s5
  have hqq : (sq != sq) = false := by simp
  generalize eN1 : tk.length = N1 at *
  generalize eN2 : q.length = N2 at *
  generalize eN3 : t.length = N3 at *
  generalize eN4 : d.length = N4 at *
  generalize eN5 : g.length = N5 at *
  have HEN := Lib.hid (And.intro eN1 (And.intro eN2 (And.intro eN3 (And.intro eN4 eN5))))
  clear eN1 eN2 eN3 eN4 eN5
  clear HEN
  go_enter Tryz.func13, Tryz.ntmps13
  go_wp2_with (first
    | (refine wpList_box_h rfl 48 (.tmp 0) rfl #[.int .i64 n0, .int .i64 n1, .int .i64 n2, .int .i64 n3, .int .i64 n4, .int .i64 n5, .int .i64 n6, .bool n7, .int .i64 ad, .int .i64 st, .int .i64 lf, .slice a1 N1 c1, .slice a2 N2 c2, .slice a3 N3 c3, .slice a4 N4 c4, .slice a5 N5 c5, .int .i64 sq] rfl ?_; intro w1 R1 e1 g1 b1; have HL1 := Lib.hid (show Lg w w1 [(R1, #[.int .i64 n0, .int .i64 n1, .int .i64 n2, .int .i64 n3, .int .i64 n4, .int .i64 n5, .int .i64 n6, .bool n7, .int .i64 ad, .int .i64 st, .int .i64 lf, .slice a1 N1 c1, .slice a2 N2 c2, .slice a3 N3 c3, .slice a4 N4 c4, .slice a5 N5 c5, .int .i64 sq], 48)] [] from (Lg.first w).box e1 g1 b1); clear g1 b1 e1)
    | (refine wpList_box_h rfl 48 (.tmp 1) rfl #[.int .i64 n0, .int .i64 n1, .int .i64 n2, .int .i64 n3, .int .i64 n4, .int .i64 n5, .int .i64 n6, .bool n7, .int .i64 ad, .int .i64 st, .int .i64 lf, .slice y1 N1 z1, .slice y2 N2 z2, .slice y3 N3 z3, .slice y4 N4 z4, .slice y5 N5 z5, .int .i64 sq] rfl ?_; intro w2 R2 e2 g2 b2; have qR2_R1 : R1 < R2 := Nat.lt_of_lt_of_eq (HL1.out.lt (.head _)) e2; have HL2 := Lib.hid (show Lg w w2 [(R2, #[.int .i64 n0, .int .i64 n1, .int .i64 n2, .int .i64 n3, .int .i64 n4, .int .i64 n5, .int .i64 n6, .bool n7, .int .i64 ad, .int .i64 st, .int .i64 lf, .slice y1 N1 z1, .slice y2 N2 z2, .slice y3 N3 z3, .slice y4 N4 z4, .slice y5 N5 z5, .int .i64 sq], 48), (R1, #[.int .i64 n0, .int .i64 n1, .int .i64 n2, .int .i64 n3, .int .i64 n4, .int .i64 n5, .int .i64 n6, .bool n7, .int .i64 ad, .int .i64 st, .int .i64 lf, .slice a1 N1 c1, .slice a2 N2 c2, .slice a3 N3 c3, .slice a4 N4 c4, .slice a5 N5 c5, .int .i64 sq], 48)] [] from HL1.out.box e2 g2 b2); clear g2 b2 e2)
    | (refine wpList_load_at rfl 40 (.tmp 5) rfl (R1) 0 rfl 48 #[.int .i64 n0, .int .i64 n1, .int .i64 n2, .int .i64 n3, .int .i64 n4, .int .i64 n5, .int .i64 n6, .bool n7, .int .i64 ad, .int .i64 st, .int .i64 lf, .slice a1 N1 c1, .slice a2 N2 c2, .slice a3 N3 c3, .slice a4 N4 c4, .slice a5 N5 c5, .int .i64 sq] (0, 0) (HL2.out.get (.tail _ (.head _))) [.int .i64 n0, .int .i64 n1, .int .i64 n2, .int .i64 n3, .int .i64 n4, .int .i64 n5, .int .i64 n6, .bool n7, .int .i64 ad, .int .i64 st, .int .i64 lf, .slice a1 N1 c1] rfl _ Tryz.underlying40 rfl (by kernel_rfl) ?_)
    | (refine wpList_load_at rfl 40 (.tmp 7) rfl (R2) 0 rfl 48 #[.int .i64 n0, .int .i64 n1, .int .i64 n2, .int .i64 n3, .int .i64 n4, .int .i64 n5, .int .i64 n6, .bool n7, .int .i64 ad, .int .i64 st, .int .i64 lf, .slice y1 N1 z1, .slice y2 N2 z2, .slice y3 N3 z3, .slice y4 N4 z4, .slice y5 N5 z5, .int .i64 sq] (0, 0) (HL2.out.get (.head _)) [.int .i64 n0, .int .i64 n1, .int .i64 n2, .int .i64 n3, .int .i64 n4, .int .i64 n5, .int .i64 n6, .bool n7, .int .i64 ad, .int .i64 st, .int .i64 lf, .slice y1 N1 z1] rfl _ Tryz.underlying40 rfl (by kernel_rfl) ?_))
  refine ((HC1 _ (HI1.out.kept HL2.out.below) (HJ1.out.kept HL2.out.below)).out).mono ?_
  rintro e w3 ⟨rfl, h⟩
  have HL3 := Lib.hid (show Lg w w3 [(R2, #[.int .i64 n0, .int .i64 n1, .int .i64 n2, .int .i64 n3, .int .i64 n4, .int .i64 n5, .int .i64 n6, .bool n7, .int .i64 ad, .int .i64 st, .int .i64 lf, .slice y1 N1 z1, .slice y2 N2 z2, .slice y3 N3 z3, .slice y4 N4 z4, .slice y5 N5 z5, .int .i64 sq], 48), (R1, #[.int .i64 n0, .int .i64 n1, .int .i64 n2, .int .i64 n3, .int .i64 n4, .int .i64 n5, .int .i64 n6, .bool n7, .int .i64 ad, .int .i64 st, .int .i64 lf, .slice a1 N1 c1, .slice a2 N2 c2, .slice a3 N3 c3, .slice a4 N4 c4, .slice a5 N5 c5, .int .i64 sq], 48)] [] from HL2.out.kept h)
  clear h
  go_wp2_with (first
    | (refine wpList_load_at rfl 43 (.tmp 11) rfl (R1) 12 rfl 48 #[.int .i64 n0, .int .i64 n1, .int .i64 n2, .int .i64 n3, .int .i64 n4, .int .i64 n5, .int .i64 n6, .bool n7, .int .i64 ad, .int .i64 st, .int .i64 lf, .slice a1 N1 c1, .slice a2 N2 c2, .slice a3 N3 c3, .slice a4 N4 c4, .slice a5 N5 c5, .int .i64 sq] (0, 0) (HL3.out.get (.tail _ (.head _))) [.slice a2 N2 c2] rfl _ Tryz.underlying43 rfl (by kernel_rfl) ?_)
    | (refine wpList_load_at rfl 43 (.tmp 13) rfl (R2) 12 rfl 48 #[.int .i64 n0, .int .i64 n1, .int .i64 n2, .int .i64 n3, .int .i64 n4, .int .i64 n5, .int .i64 n6, .bool n7, .int .i64 ad, .int .i64 st, .int .i64 lf, .slice y1 N1 z1, .slice y2 N2 z2, .slice y3 N3 z3, .slice y4 N4 z4, .slice y5 N5 z5, .int .i64 sq] (0, 0) (HL3.out.get (.head _)) [.slice y2 N2 z2] rfl _ Tryz.underlying43 rfl (by kernel_rfl) ?_))
  refine ((HC2 _ (HI2.out.kept HL3.out.below) (HJ2.out.kept HL3.out.below)).out).mono ?_
  rintro e w4 ⟨rfl, h⟩
  have HL4 := Lib.hid (show Lg w w4 [(R2, #[.int .i64 n0, .int .i64 n1, .int .i64 n2, .int .i64 n3, .int .i64 n4, .int .i64 n5, .int .i64 n6, .bool n7, .int .i64 ad, .int .i64 st, .int .i64 lf, .slice y1 N1 z1, .slice y2 N2 z2, .slice y3 N3 z3, .slice y4 N4 z4, .slice y5 N5 z5, .int .i64 sq], 48), (R1, #[.int .i64 n0, .int .i64 n1, .int .i64 n2, .int .i64 n3, .int .i64 n4, .int .i64 n5, .int .i64 n6, .bool n7, .int .i64 ad, .int .i64 st, .int .i64 lf, .slice a1 N1 c1, .slice a2 N2 c2, .slice a3 N3 c3, .slice a4 N4 c4, .slice a5 N5 c5, .int .i64 sq], 48)] [] from HL3.out.kept h)
  clear h
  go_wp2_with (first
    | (refine wpList_load_one rfl 44 (.tmp 17) rfl (R1) 13 rfl 48 #[.int .i64 n0, .int .i64 n1, .int .i64 n2, .int .i64 n3, .int .i64 n4, .int .i64 n5, .int .i64 n6, .bool n7, .int .i64 ad, .int .i64 st, .int .i64 lf, .slice a1 N1 c1, .slice a2 N2 c2, .slice a3 N3 c3, .slice a4 N4 c4, .slice a5 N5 c5, .int .i64 sq] (0, 0) (HL4.out.get (.tail _ (.head _))) (.slice a3 N3 c3) rfl _ Tryz.underlying44 rfl (by kernel_rfl) ?_)
    | (refine wpList_load_one rfl 44 (.tmp 19) rfl (R2) 13 rfl 48 #[.int .i64 n0, .int .i64 n1, .int .i64 n2, .int .i64 n3, .int .i64 n4, .int .i64 n5, .int .i64 n6, .bool n7, .int .i64 ad, .int .i64 st, .int .i64 lf, .slice y1 N1 z1, .slice y2 N2 z2, .slice y3 N3 z3, .slice y4 N4 z4, .slice y5 N5 z5, .int .i64 sq] (0, 0) (HL4.out.get (.head _)) (.slice y3 N3 z3) rfl _ Tryz.underlying44 rfl (by kernel_rfl) ?_))
  refine ((HC3 _ (HI3.out.kept HL4.out.below) (HJ3.out.kept HL4.out.below)).out).mono ?_
  rintro e w5 ⟨rfl, h⟩
  have HL5 := Lib.hid (show Lg w w5 [(R2, #[.int .i64 n0, .int .i64 n1, .int .i64 n2, .int .i64 n3, .int .i64 n4, .int .i64 n5, .int .i64 n6, .bool n7, .int .i64 ad, .int .i64 st, .int .i64 lf, .slice y1 N1 z1, .slice y2 N2 z2, .slice y3 N3 z3, .slice y4 N4 z4, .slice y5 N5 z5, .int .i64 sq], 48), (R1, #[.int .i64 n0, .int .i64 n1, .int .i64 n2, .int .i64 n3, .int .i64 n4, .int .i64 n5, .int .i64 n6, .bool n7, .int .i64 ad, .int .i64 st, .int .i64 lf, .slice a1 N1 c1, .slice a2 N2 c2, .slice a3 N3 c3, .slice a4 N4 c4, .slice a5 N5 c5, .int .i64 sq], 48)] [] from HL4.out.kept h)
  clear h
  go_wp2_with (first
    | (refine wpList_load_one rfl 45 (.tmp 23) rfl (R1) 14 rfl 48 #[.int .i64 n0, .int .i64 n1, .int .i64 n2, .int .i64 n3, .int .i64 n4, .int .i64 n5, .int .i64 n6, .bool n7, .int .i64 ad, .int .i64 st, .int .i64 lf, .slice a1 N1 c1, .slice a2 N2 c2, .slice a3 N3 c3, .slice a4 N4 c4, .slice a5 N5 c5, .int .i64 sq] (0, 0) (HL5.out.get (.tail _ (.head _))) (.slice a4 N4 c4) rfl _ Tryz.underlying45 rfl (by kernel_rfl) ?_)
    | (refine wpList_load_one rfl 45 (.tmp 25) rfl (R2) 14 rfl 48 #[.int .i64 n0, .int .i64 n1, .int .i64 n2, .int .i64 n3, .int .i64 n4, .int .i64 n5, .int .i64 n6, .bool n7, .int .i64 ad, .int .i64 st, .int .i64 lf, .slice y1 N1 z1, .slice y2 N2 z2, .slice y3 N3 z3, .slice y4 N4 z4, .slice y5 N5 z5, .int .i64 sq] (0, 0) (HL5.out.get (.head _)) (.slice y4 N4 z4) rfl _ Tryz.underlying45 rfl (by kernel_rfl) ?_))
  refine ((HC4 _ (HI4.out.kept HL5.out.below) (HJ4.out.kept HL5.out.below)).out).mono ?_
  rintro e w6 ⟨rfl, h⟩
  have HL6 := Lib.hid (show Lg w w6 [(R2, #[.int .i64 n0, .int .i64 n1, .int .i64 n2, .int .i64 n3, .int .i64 n4, .int .i64 n5, .int .i64 n6, .bool n7, .int .i64 ad, .int .i64 st, .int .i64 lf, .slice y1 N1 z1, .slice y2 N2 z2, .slice y3 N3 z3, .slice y4 N4 z4, .slice y5 N5 z5, .int .i64 sq], 48), (R1, #[.int .i64 n0, .int .i64 n1, .int .i64 n2, .int .i64 n3, .int .i64 n4, .int .i64 n5, .int .i64 n6, .bool n7, .int .i64 ad, .int .i64 st, .int .i64 lf, .slice a1 N1 c1, .slice a2 N2 c2, .slice a3 N3 c3, .slice a4 N4 c4, .slice a5 N5 c5, .int .i64 sq], 48)] [] from HL5.out.kept h)
  clear h
  go_wp2_with (first
    | (refine wpList_load_one rfl 46 (.tmp 29) rfl (R1) 15 rfl 48 #[.int .i64 n0, .int .i64 n1, .int .i64 n2, .int .i64 n3, .int .i64 n4, .int .i64 n5, .int .i64 n6, .bool n7, .int .i64 ad, .int .i64 st, .int .i64 lf, .slice a1 N1 c1, .slice a2 N2 c2, .slice a3 N3 c3, .slice a4 N4 c4, .slice a5 N5 c5, .int .i64 sq] (0, 0) (HL6.out.get (.tail _ (.head _))) (.slice a5 N5 c5) rfl _ Tryz.underlying46 rfl (by kernel_rfl) ?_)
    | (refine wpList_load_one rfl 46 (.tmp 31) rfl (R2) 15 rfl 48 #[.int .i64 n0, .int .i64 n1, .int .i64 n2, .int .i64 n3, .int .i64 n4, .int .i64 n5, .int .i64 n6, .bool n7, .int .i64 ad, .int .i64 st, .int .i64 lf, .slice y1 N1 z1, .slice y2 N2 z2, .slice y3 N3 z3, .slice y4 N4 z4, .slice y5 N5 z5, .int .i64 sq] (0, 0) (HL6.out.get (.head _)) (.slice y5 N5 z5) rfl _ Tryz.underlying46 rfl (by kernel_rfl) ?_))
  refine ((HC5 _ (HI5.out.kept HL6.out.below) (HJ5.out.kept HL6.out.below)).out).mono ?_
  rintro e w7 ⟨rfl, h⟩
  have HL7 := Lib.hid (show Lg w w7 [(R2, #[.int .i64 n0, .int .i64 n1, .int .i64 n2, .int .i64 n3, .int .i64 n4, .int .i64 n5, .int .i64 n6, .bool n7, .int .i64 ad, .int .i64 st, .int .i64 lf, .slice y1 N1 z1, .slice y2 N2 z2, .slice y3 N3 z3, .slice y4 N4 z4, .slice y5 N5 z5, .int .i64 sq], 48), (R1, #[.int .i64 n0, .int .i64 n1, .int .i64 n2, .int .i64 n3, .int .i64 n4, .int .i64 n5, .int .i64 n6, .bool n7, .int .i64 ad, .int .i64 st, .int .i64 lf, .slice a1 N1 c1, .slice a2 N2 c2, .slice a3 N3 c3, .slice a4 N4 c4, .slice a5 N5 c5, .int .i64 sq], 48)] [] from HL6.out.kept h)
  clear h
  go_wp2_with (first
    | (refine wpList_load_one rfl 2 (.tmp 35) rfl (R1) 16 rfl 48 #[.int .i64 n0, .int .i64 n1, .int .i64 n2, .int .i64 n3, .int .i64 n4, .int .i64 n5, .int .i64 n6, .bool n7, .int .i64 ad, .int .i64 st, .int .i64 lf, .slice a1 N1 c1, .slice a2 N2 c2, .slice a3 N3 c3, .slice a4 N4 c4, .slice a5 N5 c5, .int .i64 sq] (0, 0) (HL7.out.get (.tail _ (.head _))) (.int .i64 sq) rfl _ Tryz.underlying2 rfl (by kernel_rfl) ?_)
    | (refine wpList_load_one rfl 2 (.tmp 37) rfl (R2) 16 rfl 48 #[.int .i64 n0, .int .i64 n1, .int .i64 n2, .int .i64 n3, .int .i64 n4, .int .i64 n5, .int .i64 n6, .bool n7, .int .i64 ad, .int .i64 st, .int .i64 lf, .slice y1 N1 z1, .slice y2 N2 z2, .slice y3 N3 z3, .slice y4 N4 z4, .slice y5 N5 z5, .int .i64 sq] (0, 0) (HL7.out.get (.head _)) (.int .i64 sq) rfl _ Tryz.underlying2 rfl (by kernel_rfl) ?_))
  go_ret
  exact ⟨rfl, HL7.out.below⟩
/-- The Node as it is once it is marked. -/
def markNd (x : Nd) : Nd := ⟨⟨x.c.n, x.c.ad, x.c.st, x.c.lf, nmarks 1 x.c.tk.length⟩, marksL (1 + x.c.tk.length) x.q.length, marksSe (1 + x.c.tk.length + 2 * x.q.length) x.t.length, marksDv (1 + x.c.tk.length + 2 * x.q.length + 7 * x.t.length) x.d.length, marksGt (1 + x.c.tk.length + 2 * x.q.length + 7 * x.t.length + 10 * x.d.length) x.g.length, x.s⟩
/-- The number behind the last mark. -/
def endNd (x : Nd) : Nat := 1 + x.c.tk.length + 2 * x.q.length + 7 * x.t.length + 10 * x.d.length + 3 * x.g.length
set_option maxRecDepth 100000 in
set_option maxHeartbeats 8000000 in
theorem markNode_1 {lo hi : Nat} (x : Nd) (a1 a2 a3 a4 a5 : Option Addr) (c1 c2 c3 c4 c5 : Nat) (w : World) (k : NdNew lo hi w a1 a2 a3 a4 a5 x) (hhi : hi ≤ w.heap.size) (hs : NdSmall x) :
    Calls Tryz.prog 15 #[ndV x a1 a2 a3 a4 a5 c1 c2 c3 c4 c5, .int .i64 1] w fun e w' => e = .returned (.int .i64 ((endNd x : Nat) : Int)) ∧ NdNew lo hi w' a1 a2 a3 a4 a5 (markNd x) ∧ Out lo hi w w' := by
  unfold NdSmall at hs
  unfold endNd markNd
  obtain ⟨⟨⟨n0, n1, n2, n3, n4, n5, n6, n7⟩, ad, st, lf, tk⟩, q, t, d, g, sq⟩ := x
  unfold ndV
  dsimp only at *
  obtain ⟨l1, h1, l2, h2, l3, h3, l4, h4, l5, h5, b1, b2, b3, b4, b5, d12, d13, d14, d15, d23, d24, d25, d34, d35, d45, k1, k2, k3, k4, k5⟩ := k
  obtain ⟨s1, s2, ⟨s3, -⟩, s4, s5, -⟩ := hs
  dsimp only at *
  have HC1 := fun W h => Lib.hid (markClaim_any (lo := l1) (hi := h1) ⟨n0, n1, n2, n3, n4, n5, n6, n7⟩ ad st lf a1 c1 tk 1 W h (by omega) (by omega))
  have HC2 := fun W h => Lib.hid (markQueue_any (lo := l2) (hi := h2) a2 c2 q (1 + tk.length) W h (by omega) (by omega))
  have HC3 := fun W h => Lib.hid (markSessionS_any (lo := l3) (hi := h3) a3 c3 t (1 + tk.length + 2 * q.length) W h (by omega) (by omega))
  have HC4 := fun W h => Lib.hid (markDeviceS_any (lo := l4) (hi := h4) a4 c4 d (1 + tk.length + 2 * q.length + 7 * t.length) W h (by omega) (by omega))
  have HC5 := fun W h => Lib.hid (markGotS_any (lo := l5) (hi := h5) a5 c5 g (1 + tk.length + 2 * q.length + 7 * t.length + 10 * d.length) W h (by omega) (by omega))
  unfold clV at HC1
  dsimp only at HC1
  have HK1 := Lib.hid k1
  have HK2 := Lib.hid k2
  have HK3 := Lib.hid k3
  have HK4 := Lib.hid k4
  have HK5 := Lib.hid k5
  clear k1 k2 k3 k4 k5 s1 s2 s3 s4 s5
  generalize eN1 : tk.length = N1 at *
  generalize eN2 : q.length = N2 at *
  generalize eN3 : t.length = N3 at *
  generalize eN4 : d.length = N4 at *
  generalize eN5 : g.length = N5 at *
  have HEN := Lib.hid (And.intro eN1 (And.intro eN2 (And.intro eN3 (And.intro eN4 eN5))))
  clear eN1 eN2 eN3 eN4 eN5
  clear HEN
  obtain ⟨K1, eK1⟩ : ∃ K, 1 + N1 = K := ⟨_, rfl⟩
  rw [eK1] at HC1 HC2 HC3 HC4 HC5 ⊢
  obtain ⟨K2, eK2⟩ : ∃ K, K1 + 2 * N2 = K := ⟨_, rfl⟩
  rw [eK2] at HC2 HC3 HC4 HC5 ⊢
  obtain ⟨K3, eK3⟩ : ∃ K, K2 + 7 * N3 = K := ⟨_, rfl⟩
  rw [eK3] at HC3 HC4 HC5 ⊢
  obtain ⟨K4, eK4⟩ : ∃ K, K3 + 10 * N4 = K := ⟨_, rfl⟩
  rw [eK4] at HC4 HC5 ⊢
  obtain ⟨K5, eK5⟩ : ∃ K, K4 + 3 * N5 = K := ⟨_, rfl⟩
  rw [eK5] at HC5 ⊢
  clear eK1 eK2 eK3 eK4 eK5
  go_enter Tryz.func15, Tryz.ntmps15
  go_wp2_with (first
    | (refine wpList_box_h rfl 48 (.tmp 0) rfl #[.int .i64 n0, .int .i64 n1, .int .i64 n2, .int .i64 n3, .int .i64 n4, .int .i64 n5, .int .i64 n6, .bool n7, .int .i64 ad, .int .i64 st, .int .i64 lf, .slice a1 N1 c1, .slice a2 N2 c2, .slice a3 N3 c3, .slice a4 N4 c4, .slice a5 N5 c5, .int .i64 sq] rfl ?_; intro w1 R1 e1 g1 b1; have HL1 := Lib.hid (show Lg w w1 [(R1, #[.int .i64 n0, .int .i64 n1, .int .i64 n2, .int .i64 n3, .int .i64 n4, .int .i64 n5, .int .i64 n6, .bool n7, .int .i64 ad, .int .i64 st, .int .i64 lf, .slice a1 N1 c1, .slice a2 N2 c2, .slice a3 N3 c3, .slice a4 N4 c4, .slice a5 N5 c5, .int .i64 sq], 48)] [] from (Lg.first w).box e1 g1 b1); clear g1 b1 e1)
    | (refine wpList_load_at rfl 40 (.tmp 5) rfl (R1) 0 rfl 48 #[.int .i64 n0, .int .i64 n1, .int .i64 n2, .int .i64 n3, .int .i64 n4, .int .i64 n5, .int .i64 n6, .bool n7, .int .i64 ad, .int .i64 st, .int .i64 lf, .slice a1 N1 c1, .slice a2 N2 c2, .slice a3 N3 c3, .slice a4 N4 c4, .slice a5 N5 c5, .int .i64 sq] (0, 0) (HL1.out.get (.head _)) [.int .i64 n0, .int .i64 n1, .int .i64 n2, .int .i64 n3, .int .i64 n4, .int .i64 n5, .int .i64 n6, .bool n7, .int .i64 ad, .int .i64 st, .int .i64 lf, .slice a1 N1 c1] rfl _ Tryz.underlying40 rfl (by kernel_rfl) ?_))
  have HR1 := Lib.hid (HL1.out.get (.head _))
  have hge1 := HL1.out.ge (.head _)
  have HQ1 := Lib.hid (Out.of_below (lo := lo) (hi := hi) HL1.out.below)
  have HG1_1 := Lib.hid (HK1.out.kept HL1.out.below)
  have HG2_1 := Lib.hid (HK2.out.kept HL1.out.below)
  have HG3_1 := Lib.hid (HK3.out.kept HL1.out.below)
  have HG4_1 := Lib.hid (HK4.out.kept HL1.out.below)
  have HG5_1 := Lib.hid (HK5.out.kept HL1.out.below)
  have hhi1 : hi ≤ w1.heap.size := Nat.le_trans hhi HL1.out.below.size
  have hlt1 : R1 < w1.heap.size := HL1.out.lt (.head _)
  refine (HC1 _ HG1_1.out).out.mono ?_
  rintro e w2 ⟨rfl, hn, ho⟩
  have HR2 := Lib.hid ((ho.block R1 hlt1 (.inr (by omega))).trans HR1.out)
  have HG1_2 := Lib.hid hn
  have HG2_2 := Lib.hid (HG2_1.out.out ho (by omega))
  have HG3_2 := Lib.hid (HG3_1.out.out ho (by omega))
  have HG4_2 := Lib.hid (HG4_1.out.out ho (by omega))
  have HG5_2 := Lib.hid (HG5_1.out.out ho (by omega))
  have HQ2 := Lib.hid (HQ1.out.trans (ho.span2 (lo2 := lo) (hi2 := hi) (by omega) (by omega)))
  have hlt2 : R1 < w2.heap.size := Nat.lt_of_lt_of_le hlt1 ho.size
  clear hn ho
  go_wp2_with (first
    | (refine wpList_load_at rfl 43 (.tmp 9) rfl (R1) 12 rfl 48 #[.int .i64 n0, .int .i64 n1, .int .i64 n2, .int .i64 n3, .int .i64 n4, .int .i64 n5, .int .i64 n6, .bool n7, .int .i64 ad, .int .i64 st, .int .i64 lf, .slice a1 N1 c1, .slice a2 N2 c2, .slice a3 N3 c3, .slice a4 N4 c4, .slice a5 N5 c5, .int .i64 sq] (0, 0) HR2.out [.slice a2 N2 c2] rfl _ Tryz.underlying43 rfl (by kernel_rfl) ?_))
  refine (HC2 _ HG2_2.out).out.mono ?_
  rintro e w3 ⟨rfl, hn, ho⟩
  have HR3 := Lib.hid ((ho.block R1 hlt2 (.inr (by omega))).trans HR2.out)
  have HG1_3 := Lib.hid (HG1_2.out.out ho (by omega))
  have HG2_3 := Lib.hid hn
  have HG3_3 := Lib.hid (HG3_2.out.out ho (by omega))
  have HG4_3 := Lib.hid (HG4_2.out.out ho (by omega))
  have HG5_3 := Lib.hid (HG5_2.out.out ho (by omega))
  have HQ3 := Lib.hid (HQ2.out.trans (ho.span2 (lo2 := lo) (hi2 := hi) (by omega) (by omega)))
  have hlt3 : R1 < w3.heap.size := Nat.lt_of_lt_of_le hlt2 ho.size
  clear hn ho
  go_wp2_with (first
    | (refine wpList_load_one rfl 44 (.tmp 13) rfl (R1) 13 rfl 48 #[.int .i64 n0, .int .i64 n1, .int .i64 n2, .int .i64 n3, .int .i64 n4, .int .i64 n5, .int .i64 n6, .bool n7, .int .i64 ad, .int .i64 st, .int .i64 lf, .slice a1 N1 c1, .slice a2 N2 c2, .slice a3 N3 c3, .slice a4 N4 c4, .slice a5 N5 c5, .int .i64 sq] (0, 0) HR3.out (.slice a3 N3 c3) rfl _ Tryz.underlying44 rfl (by kernel_rfl) ?_))
  refine (HC3 _ HG3_3.out).out.mono ?_
  rintro e w4 ⟨rfl, hn, ho⟩
  have HR4 := Lib.hid ((ho.block R1 hlt3 (.inr (by omega))).trans HR3.out)
  have HG1_4 := Lib.hid (HG1_3.out.out ho (by omega))
  have HG2_4 := Lib.hid (HG2_3.out.out ho (by omega))
  have HG3_4 := Lib.hid hn
  have HG4_4 := Lib.hid (HG4_3.out.out ho (by omega))
  have HG5_4 := Lib.hid (HG5_3.out.out ho (by omega))
  have HQ4 := Lib.hid (HQ3.out.trans (ho.span2 (lo2 := lo) (hi2 := hi) (by omega) (by omega)))
  have hlt4 : R1 < w4.heap.size := Nat.lt_of_lt_of_le hlt3 ho.size
  clear hn ho
  go_wp2_with (first
    | (refine wpList_load_one rfl 45 (.tmp 17) rfl (R1) 14 rfl 48 #[.int .i64 n0, .int .i64 n1, .int .i64 n2, .int .i64 n3, .int .i64 n4, .int .i64 n5, .int .i64 n6, .bool n7, .int .i64 ad, .int .i64 st, .int .i64 lf, .slice a1 N1 c1, .slice a2 N2 c2, .slice a3 N3 c3, .slice a4 N4 c4, .slice a5 N5 c5, .int .i64 sq] (0, 0) HR4.out (.slice a4 N4 c4) rfl _ Tryz.underlying45 rfl (by kernel_rfl) ?_))
  refine (HC4 _ HG4_4.out).out.mono ?_
  rintro e w5 ⟨rfl, hn, ho⟩
  have HR5 := Lib.hid ((ho.block R1 hlt4 (.inr (by omega))).trans HR4.out)
  have HG1_5 := Lib.hid (HG1_4.out.out ho (by omega))
  have HG2_5 := Lib.hid (HG2_4.out.out ho (by omega))
  have HG3_5 := Lib.hid (HG3_4.out.out ho (by omega))
  have HG4_5 := Lib.hid hn
  have HG5_5 := Lib.hid (HG5_4.out.out ho (by omega))
  have HQ5 := Lib.hid (HQ4.out.trans (ho.span2 (lo2 := lo) (hi2 := hi) (by omega) (by omega)))
  have hlt5 : R1 < w5.heap.size := Nat.lt_of_lt_of_le hlt4 ho.size
  clear hn ho
  go_wp2_with (first
    | (refine wpList_load_one rfl 46 (.tmp 21) rfl (R1) 15 rfl 48 #[.int .i64 n0, .int .i64 n1, .int .i64 n2, .int .i64 n3, .int .i64 n4, .int .i64 n5, .int .i64 n6, .bool n7, .int .i64 ad, .int .i64 st, .int .i64 lf, .slice a1 N1 c1, .slice a2 N2 c2, .slice a3 N3 c3, .slice a4 N4 c4, .slice a5 N5 c5, .int .i64 sq] (0, 0) HR5.out (.slice a5 N5 c5) rfl _ Tryz.underlying46 rfl (by kernel_rfl) ?_))
  refine (HC5 _ HG5_5.out).out.mono ?_
  rintro e w6 ⟨rfl, hn, ho⟩
  have HR6 := Lib.hid ((ho.block R1 hlt5 (.inr (by omega))).trans HR5.out)
  have HG1_6 := Lib.hid (HG1_5.out.out ho (by omega))
  have HG2_6 := Lib.hid (HG2_5.out.out ho (by omega))
  have HG3_6 := Lib.hid (HG3_5.out.out ho (by omega))
  have HG4_6 := Lib.hid (HG4_5.out.out ho (by omega))
  have HG5_6 := Lib.hid hn
  have HQ6 := Lib.hid (HQ5.out.trans (ho.span2 (lo2 := lo) (hi2 := hi) (by omega) (by omega)))
  have hlt6 : R1 < w6.heap.size := Nat.lt_of_lt_of_le hlt5 ho.size
  clear hn ho
  go_wp2_with fail
  go_ret
  exact ⟨rfl, ⟨l1, h1, l2, h2, l3, h3, l4, h4, l5, h5, b1, b2, b3, b4, b5, d12, d13, d14, d15, d23, d24, d25, d34, d35, d45, HG1_6.out, HG2_6.out, HG3_6.out, HG4_6.out, HG5_6.out⟩, HQ6.out⟩
set_option maxRecDepth 100000 in
set_option maxHeartbeats 8000000 in
theorem heldNode_1 {lo hi : Nat} (x : Nd) (a1 a2 a3 a4 a5 : Option Addr) (c1 c2 c3 c4 c5 : Nat) (w : World) (k : NdNew lo hi w a1 a2 a3 a4 a5 (markNd x)) (hs : NdSmall x) :
    Calls Tryz.prog 62 #[ndV x a1 a2 a3 a4 a5 c1 c2 c3 c4 c5, .int .i64 1] w fun e w' => e = .returned (.int .i64 ((endNd x : Nat) : Int)) ∧ Below w.heap.size w w' := by
  unfold NdSmall at hs
  unfold markNd at k
  unfold endNd
  obtain ⟨⟨⟨n0, n1, n2, n3, n4, n5, n6, n7⟩, ad, st, lf, tk⟩, q, t, d, g, sq⟩ := x
  unfold ndV
  dsimp only at *
  obtain ⟨l1, h1, l2, h2, l3, h3, l4, h4, l5, h5, b1, b2, b3, b4, b5, d12, d13, d14, d15, d23, d24, d25, d34, d35, d45, k1, k2, k3, k4, k5⟩ := k
  obtain ⟨s1, s2, ⟨s3, -⟩, s4, s5, -⟩ := hs
  dsimp only at *
  have HC1 := fun W h => Lib.hid (heldClaim_any ⟨n0, n1, n2, n3, n4, n5, n6, n7⟩ ad st lf a1 c1 tk.length 1 W h (by omega) (by omega))
  have HC2 := fun W h => Lib.hid (heldQueue_any a2 c2 q.length (1 + tk.length) W h (by omega) (by omega))
  have HC3 := fun W h => Lib.hid (heldSessionS_any (lo := l3) (hi := h3) a3 c3 t.length (1 + tk.length + 2 * q.length) W h (by omega) (by omega))
  have HC4 := fun W h => Lib.hid (heldDeviceS_any (lo := l4) (hi := h4) a4 c4 d.length (1 + tk.length + 2 * q.length + 7 * t.length) W h (by omega) (by omega))
  have HC5 := fun W h => Lib.hid (heldGotS_any (lo := l5) (hi := h5) a5 c5 g.length (1 + tk.length + 2 * q.length + 7 * t.length + 10 * d.length) W h (by omega) (by omega))
  unfold clV at HC1
  dsimp only at HC1
  have HK1 := Lib.hid k1.nums
  have HK2 := Lib.hid k2.cans
  have HK3 := Lib.hid k3
  have HK4 := Lib.hid k4
  have HK5 := Lib.hid k5
  clear k1 k2 k3 k4 k5 s1 s2 s3 s4 s5
  generalize eN1 : tk.length = N1 at *
  generalize eN2 : q.length = N2 at *
  generalize eN3 : t.length = N3 at *
  generalize eN4 : d.length = N4 at *
  generalize eN5 : g.length = N5 at *
  have HEN := Lib.hid (And.intro eN1 (And.intro eN2 (And.intro eN3 (And.intro eN4 eN5))))
  clear eN1 eN2 eN3 eN4 eN5
  clear HEN
  obtain ⟨K1, eK1⟩ : ∃ K, 1 + N1 = K := ⟨_, rfl⟩
  rw [eK1] at HC1 HC2 HC3 HC4 HC5 HK2 HK3 HK4 HK5 ⊢
  obtain ⟨K2, eK2⟩ : ∃ K, K1 + 2 * N2 = K := ⟨_, rfl⟩
  rw [eK2] at HC2 HC3 HC4 HC5 HK3 HK4 HK5 ⊢
  obtain ⟨K3, eK3⟩ : ∃ K, K2 + 7 * N3 = K := ⟨_, rfl⟩
  rw [eK3] at HC3 HC4 HC5 HK4 HK5 ⊢
  obtain ⟨K4, eK4⟩ : ∃ K, K3 + 10 * N4 = K := ⟨_, rfl⟩
  rw [eK4] at HC4 HC5 HK5 ⊢
  obtain ⟨K5, eK5⟩ : ∃ K, K4 + 3 * N5 = K := ⟨_, rfl⟩
  rw [eK5] at HC5 ⊢
  clear eK1 eK2 eK3 eK4 eK5
  have hd1 : decide ((K1 : Int) < 0) = false := decide_eq_false (by omega)
  have hd2 : decide ((K2 : Int) < 0) = false := decide_eq_false (by omega)
  have hd3 : decide ((K3 : Int) < 0) = false := decide_eq_false (by omega)
  have hd4 : decide ((K4 : Int) < 0) = false := decide_eq_false (by omega)
  have hd5 : decide ((K5 : Int) < 0) = false := decide_eq_false (by omega)
  go_enter Tryz.func62, Tryz.ntmps62
  go_wp2_with (first
    | (refine wpList_box_h rfl 48 (.tmp 0) rfl #[.int .i64 n0, .int .i64 n1, .int .i64 n2, .int .i64 n3, .int .i64 n4, .int .i64 n5, .int .i64 n6, .bool n7, .int .i64 ad, .int .i64 st, .int .i64 lf, .slice a1 N1 c1, .slice a2 N2 c2, .slice a3 N3 c3, .slice a4 N4 c4, .slice a5 N5 c5, .int .i64 sq] rfl ?_; intro w1 R1 e1 g1 b1; have HL1 := Lib.hid (show Lg w w1 [(R1, #[.int .i64 n0, .int .i64 n1, .int .i64 n2, .int .i64 n3, .int .i64 n4, .int .i64 n5, .int .i64 n6, .bool n7, .int .i64 ad, .int .i64 st, .int .i64 lf, .slice a1 N1 c1, .slice a2 N2 c2, .slice a3 N3 c3, .slice a4 N4 c4, .slice a5 N5 c5, .int .i64 sq], 48)] [] from (Lg.first w).box e1 g1 b1); clear g1 b1 e1)
    | (refine wpList_load_at rfl 40 (.tmp 5) rfl (R1) 0 rfl 48 #[.int .i64 n0, .int .i64 n1, .int .i64 n2, .int .i64 n3, .int .i64 n4, .int .i64 n5, .int .i64 n6, .bool n7, .int .i64 ad, .int .i64 st, .int .i64 lf, .slice a1 N1 c1, .slice a2 N2 c2, .slice a3 N3 c3, .slice a4 N4 c4, .slice a5 N5 c5, .int .i64 sq] (0, 0) (HL1.out.get (.head _)) [.int .i64 n0, .int .i64 n1, .int .i64 n2, .int .i64 n3, .int .i64 n4, .int .i64 n5, .int .i64 n6, .bool n7, .int .i64 ad, .int .i64 st, .int .i64 lf, .slice a1 N1 c1] rfl _ Tryz.underlying40 rfl (by kernel_rfl) ?_))
  refine ((HC1 _ (HK1.out.kept HL1.out.below)).out).mono ?_
  rintro e w2 ⟨rfl, h⟩
  have HL2 := Lib.hid (show Lg w w2 [(R1, #[.int .i64 n0, .int .i64 n1, .int .i64 n2, .int .i64 n3, .int .i64 n4, .int .i64 n5, .int .i64 n6, .bool n7, .int .i64 ad, .int .i64 st, .int .i64 lf, .slice a1 N1 c1, .slice a2 N2 c2, .slice a3 N3 c3, .slice a4 N4 c4, .slice a5 N5 c5, .int .i64 sq], 48)] [] from HL1.out.kept h)
  clear h
  go_wp2_with (first
    | (refine wpList_load_at rfl 43 (.tmp 11) rfl (R1) 12 rfl 48 #[.int .i64 n0, .int .i64 n1, .int .i64 n2, .int .i64 n3, .int .i64 n4, .int .i64 n5, .int .i64 n6, .bool n7, .int .i64 ad, .int .i64 st, .int .i64 lf, .slice a1 N1 c1, .slice a2 N2 c2, .slice a3 N3 c3, .slice a4 N4 c4, .slice a5 N5 c5, .int .i64 sq] (0, 0) (HL2.out.get (.head _)) [.slice a2 N2 c2] rfl _ Tryz.underlying43 rfl (by kernel_rfl) ?_))
  refine ((HC2 _ (HK2.out.kept HL2.out.below)).out).mono ?_
  rintro e w3 ⟨rfl, h⟩
  have HL3 := Lib.hid (show Lg w w3 [(R1, #[.int .i64 n0, .int .i64 n1, .int .i64 n2, .int .i64 n3, .int .i64 n4, .int .i64 n5, .int .i64 n6, .bool n7, .int .i64 ad, .int .i64 st, .int .i64 lf, .slice a1 N1 c1, .slice a2 N2 c2, .slice a3 N3 c3, .slice a4 N4 c4, .slice a5 N5 c5, .int .i64 sq], 48)] [] from HL2.out.kept h)
  clear h
  go_wp2_with (first
    | (refine wpList_load_one rfl 44 (.tmp 17) rfl (R1) 13 rfl 48 #[.int .i64 n0, .int .i64 n1, .int .i64 n2, .int .i64 n3, .int .i64 n4, .int .i64 n5, .int .i64 n6, .bool n7, .int .i64 ad, .int .i64 st, .int .i64 lf, .slice a1 N1 c1, .slice a2 N2 c2, .slice a3 N3 c3, .slice a4 N4 c4, .slice a5 N5 c5, .int .i64 sq] (0, 0) (HL3.out.get (.head _)) (.slice a3 N3 c3) rfl _ Tryz.underlying44 rfl (by kernel_rfl) ?_))
  refine ((HC3 _ (HK3.out.kept HL3.out.below)).out).mono ?_
  rintro e w4 ⟨rfl, h⟩
  have HL4 := Lib.hid (show Lg w w4 [(R1, #[.int .i64 n0, .int .i64 n1, .int .i64 n2, .int .i64 n3, .int .i64 n4, .int .i64 n5, .int .i64 n6, .bool n7, .int .i64 ad, .int .i64 st, .int .i64 lf, .slice a1 N1 c1, .slice a2 N2 c2, .slice a3 N3 c3, .slice a4 N4 c4, .slice a5 N5 c5, .int .i64 sq], 48)] [] from HL3.out.kept h)
  clear h
  go_wp2_with (first
    | (refine wpList_load_one rfl 45 (.tmp 23) rfl (R1) 14 rfl 48 #[.int .i64 n0, .int .i64 n1, .int .i64 n2, .int .i64 n3, .int .i64 n4, .int .i64 n5, .int .i64 n6, .bool n7, .int .i64 ad, .int .i64 st, .int .i64 lf, .slice a1 N1 c1, .slice a2 N2 c2, .slice a3 N3 c3, .slice a4 N4 c4, .slice a5 N5 c5, .int .i64 sq] (0, 0) (HL4.out.get (.head _)) (.slice a4 N4 c4) rfl _ Tryz.underlying45 rfl (by kernel_rfl) ?_))
  refine ((HC4 _ (HK4.out.kept HL4.out.below)).out).mono ?_
  rintro e w5 ⟨rfl, h⟩
  have HL5 := Lib.hid (show Lg w w5 [(R1, #[.int .i64 n0, .int .i64 n1, .int .i64 n2, .int .i64 n3, .int .i64 n4, .int .i64 n5, .int .i64 n6, .bool n7, .int .i64 ad, .int .i64 st, .int .i64 lf, .slice a1 N1 c1, .slice a2 N2 c2, .slice a3 N3 c3, .slice a4 N4 c4, .slice a5 N5 c5, .int .i64 sq], 48)] [] from HL4.out.kept h)
  clear h
  go_wp2_with (first
    | (refine wpList_load_one rfl 46 (.tmp 29) rfl (R1) 15 rfl 48 #[.int .i64 n0, .int .i64 n1, .int .i64 n2, .int .i64 n3, .int .i64 n4, .int .i64 n5, .int .i64 n6, .bool n7, .int .i64 ad, .int .i64 st, .int .i64 lf, .slice a1 N1 c1, .slice a2 N2 c2, .slice a3 N3 c3, .slice a4 N4 c4, .slice a5 N5 c5, .int .i64 sq] (0, 0) (HL5.out.get (.head _)) (.slice a5 N5 c5) rfl _ Tryz.underlying46 rfl (by kernel_rfl) ?_))
  refine ((HC5 _ (HK5.out.kept HL5.out.below)).out).mono ?_
  rintro e w6 ⟨rfl, h⟩
  have HL6 := Lib.hid (show Lg w w6 [(R1, #[.int .i64 n0, .int .i64 n1, .int .i64 n2, .int .i64 n3, .int .i64 n4, .int .i64 n5, .int .i64 n6, .bool n7, .int .i64 ad, .int .i64 st, .int .i64 lf, .slice a1 N1 c1, .slice a2 N2 c2, .slice a3 N3 c3, .slice a4 N4 c4, .slice a5 N5 c5, .int .i64 sq], 48)] [] from HL5.out.kept h)
  clear h
  go_wp2_with fail
  go_ret
  exact ⟨rfl, HL6.out.below⟩
/-- A NodeOut's cells. -/
def ndOutV (x : Nd) (cd : Int) (a1 a2 a3 a4 a5 : Option Addr) (c1 c2 c3 c4 c5 : Nat) : Value :=
  .agg #[.int .i64 x.c.n.u, .int .i64 x.c.n.m, .int .i64 x.c.n.i, .int .i64 x.c.n.f, .int .i64 x.c.n.c, .int .i64 x.c.n.s, .int .i64 x.c.n.y, .bool x.c.n.a, .int .i64 x.c.ad, .int .i64 x.c.st, .int .i64 x.c.lf, .slice a1 x.c.tk.length c1, .slice a2 x.q.length c2, .slice a3 x.t.length c3, .slice a4 x.d.length c4, .slice a5 x.g.length c5, .int .i64 x.s, .int .i64 cd]
set_option maxRecDepth 100000 in
set_option maxHeartbeats 8000000 in
theorem eqNodeOut_same (x : Nd) (cd : Int) (a1 a2 a3 a4 a5 y1 y2 y3 y4 y5 : Option Addr) (c1 c2 c3 c4 c5 z1 z2 z3 z4 z5 : Nat) (w : World) (h : NdIn w a1 a2 a3 a4 a5 x) (h' : NdIn w y1 y2 y3 y4 y5 x) (hs : NdSmall x) :
    Calls Tryz.prog 12 #[ndOutV x cd a1 a2 a3 a4 a5 c1 c2 c3 c4 c5, ndOutV x cd y1 y2 y3 y4 y5 z1 z2 z3 z4 z5] w fun e w' => e = .returned (.bool true) ∧ Below w.heap.size w w' := by
  have HI := Lib.hid h
  have HJ := Lib.hid h'
  have HE := fun W h h' => Lib.hid (eqNode_same x a1 a2 a3 a4 a5 y1 y2 y3 y4 y5 c1 c2 c3 c4 c5 z1 z2 z3 z4 z5 W h h' hs)
  have hqq : (cd != cd) = false := by simp
  clear h h' hs
  obtain ⟨⟨⟨n0, n1, n2, n3, n4, n5, n6, n7⟩, ad, st, lf, tk⟩, q, t, d, g, sq⟩ := x
  unfold ndOutV
  unfold ndV at HE
  dsimp only at *
  generalize eN1 : tk.length = N1 at *
  generalize eN2 : q.length = N2 at *
  generalize eN3 : t.length = N3 at *
  generalize eN4 : d.length = N4 at *
  generalize eN5 : g.length = N5 at *
  have HEN := Lib.hid (And.intro eN1 (And.intro eN2 (And.intro eN3 (And.intro eN4 eN5))))
  clear eN1 eN2 eN3 eN4 eN5
  clear HEN
  go_enter Tryz.func12, Tryz.ntmps12
  go_wp2_with (first
    | (refine wpList_box_h rfl 50 (.tmp 0) rfl #[.int .i64 n0, .int .i64 n1, .int .i64 n2, .int .i64 n3, .int .i64 n4, .int .i64 n5, .int .i64 n6, .bool n7, .int .i64 ad, .int .i64 st, .int .i64 lf, .slice a1 N1 c1, .slice a2 N2 c2, .slice a3 N3 c3, .slice a4 N4 c4, .slice a5 N5 c5, .int .i64 sq, .int .i64 cd] rfl ?_; intro w1 R1 e1 g1 b1; have HL1 := Lib.hid (show Lg w w1 [(R1, #[.int .i64 n0, .int .i64 n1, .int .i64 n2, .int .i64 n3, .int .i64 n4, .int .i64 n5, .int .i64 n6, .bool n7, .int .i64 ad, .int .i64 st, .int .i64 lf, .slice a1 N1 c1, .slice a2 N2 c2, .slice a3 N3 c3, .slice a4 N4 c4, .slice a5 N5 c5, .int .i64 sq, .int .i64 cd], 50)] [] from (Lg.first w).box e1 g1 b1); clear g1 b1 e1)
    | (refine wpList_box_h rfl 50 (.tmp 1) rfl #[.int .i64 n0, .int .i64 n1, .int .i64 n2, .int .i64 n3, .int .i64 n4, .int .i64 n5, .int .i64 n6, .bool n7, .int .i64 ad, .int .i64 st, .int .i64 lf, .slice y1 N1 z1, .slice y2 N2 z2, .slice y3 N3 z3, .slice y4 N4 z4, .slice y5 N5 z5, .int .i64 sq, .int .i64 cd] rfl ?_; intro w2 R2 e2 g2 b2; have qR2_R1 : R1 < R2 := Nat.lt_of_lt_of_eq (HL1.out.lt (.head _)) e2; have HL2 := Lib.hid (show Lg w w2 [(R2, #[.int .i64 n0, .int .i64 n1, .int .i64 n2, .int .i64 n3, .int .i64 n4, .int .i64 n5, .int .i64 n6, .bool n7, .int .i64 ad, .int .i64 st, .int .i64 lf, .slice y1 N1 z1, .slice y2 N2 z2, .slice y3 N3 z3, .slice y4 N4 z4, .slice y5 N5 z5, .int .i64 sq, .int .i64 cd], 50), (R1, #[.int .i64 n0, .int .i64 n1, .int .i64 n2, .int .i64 n3, .int .i64 n4, .int .i64 n5, .int .i64 n6, .bool n7, .int .i64 ad, .int .i64 st, .int .i64 lf, .slice a1 N1 c1, .slice a2 N2 c2, .slice a3 N3 c3, .slice a4 N4 c4, .slice a5 N5 c5, .int .i64 sq, .int .i64 cd], 50)] [] from HL1.out.box e2 g2 b2); clear g2 b2 e2)
    | (refine wpList_load_at rfl 48 (.tmp 5) rfl (R1) 0 rfl 50 #[.int .i64 n0, .int .i64 n1, .int .i64 n2, .int .i64 n3, .int .i64 n4, .int .i64 n5, .int .i64 n6, .bool n7, .int .i64 ad, .int .i64 st, .int .i64 lf, .slice a1 N1 c1, .slice a2 N2 c2, .slice a3 N3 c3, .slice a4 N4 c4, .slice a5 N5 c5, .int .i64 sq, .int .i64 cd] (0, 0) (HL2.out.get (.tail _ (.head _))) [.int .i64 n0, .int .i64 n1, .int .i64 n2, .int .i64 n3, .int .i64 n4, .int .i64 n5, .int .i64 n6, .bool n7, .int .i64 ad, .int .i64 st, .int .i64 lf, .slice a1 N1 c1, .slice a2 N2 c2, .slice a3 N3 c3, .slice a4 N4 c4, .slice a5 N5 c5, .int .i64 sq] rfl _ Tryz.underlying48 rfl (by kernel_rfl) ?_)
    | (refine wpList_load_at rfl 48 (.tmp 7) rfl (R2) 0 rfl 50 #[.int .i64 n0, .int .i64 n1, .int .i64 n2, .int .i64 n3, .int .i64 n4, .int .i64 n5, .int .i64 n6, .bool n7, .int .i64 ad, .int .i64 st, .int .i64 lf, .slice y1 N1 z1, .slice y2 N2 z2, .slice y3 N3 z3, .slice y4 N4 z4, .slice y5 N5 z5, .int .i64 sq, .int .i64 cd] (0, 0) (HL2.out.get (.head _)) [.int .i64 n0, .int .i64 n1, .int .i64 n2, .int .i64 n3, .int .i64 n4, .int .i64 n5, .int .i64 n6, .bool n7, .int .i64 ad, .int .i64 st, .int .i64 lf, .slice y1 N1 z1, .slice y2 N2 z2, .slice y3 N3 z3, .slice y4 N4 z4, .slice y5 N5 z5, .int .i64 sq] rfl _ Tryz.underlying48 rfl (by kernel_rfl) ?_))
  refine ((HE _ (HI.out.kept HL2.out.below) (HJ.out.kept HL2.out.below)).out).mono ?_
  rintro e w3 ⟨rfl, h⟩
  have HL3 := Lib.hid (show Lg w w3 [(R2, #[.int .i64 n0, .int .i64 n1, .int .i64 n2, .int .i64 n3, .int .i64 n4, .int .i64 n5, .int .i64 n6, .bool n7, .int .i64 ad, .int .i64 st, .int .i64 lf, .slice y1 N1 z1, .slice y2 N2 z2, .slice y3 N3 z3, .slice y4 N4 z4, .slice y5 N5 z5, .int .i64 sq, .int .i64 cd], 50), (R1, #[.int .i64 n0, .int .i64 n1, .int .i64 n2, .int .i64 n3, .int .i64 n4, .int .i64 n5, .int .i64 n6, .bool n7, .int .i64 ad, .int .i64 st, .int .i64 lf, .slice a1 N1 c1, .slice a2 N2 c2, .slice a3 N3 c3, .slice a4 N4 c4, .slice a5 N5 c5, .int .i64 sq, .int .i64 cd], 50)] [] from HL2.out.kept h)
  clear h
  go_wp2_with (first
    | (refine wpList_load_one rfl 2 (.tmp 11) rfl (R1) 17 rfl 50 #[.int .i64 n0, .int .i64 n1, .int .i64 n2, .int .i64 n3, .int .i64 n4, .int .i64 n5, .int .i64 n6, .bool n7, .int .i64 ad, .int .i64 st, .int .i64 lf, .slice a1 N1 c1, .slice a2 N2 c2, .slice a3 N3 c3, .slice a4 N4 c4, .slice a5 N5 c5, .int .i64 sq, .int .i64 cd] (0, 0) (HL3.out.get (.tail _ (.head _))) (.int .i64 cd) rfl _ Tryz.underlying2 rfl (by kernel_rfl) ?_)
    | (refine wpList_load_one rfl 2 (.tmp 13) rfl (R2) 17 rfl 50 #[.int .i64 n0, .int .i64 n1, .int .i64 n2, .int .i64 n3, .int .i64 n4, .int .i64 n5, .int .i64 n6, .bool n7, .int .i64 ad, .int .i64 st, .int .i64 lf, .slice y1 N1 z1, .slice y2 N2 z2, .slice y3 N3 z3, .slice y4 N4 z4, .slice y5 N5 z5, .int .i64 sq, .int .i64 cd] (0, 0) (HL3.out.get (.head _)) (.int .i64 cd) rfl _ Tryz.underlying2 rfl (by kernel_rfl) ?_))
  go_ret
  exact ⟨rfl, HL3.out.below⟩
set_option maxRecDepth 100000 in
set_option maxHeartbeats 8000000 in
theorem markNodeOut_1 {lo hi : Nat} (x : Nd) (cd : Int) (a1 a2 a3 a4 a5 : Option Addr) (c1 c2 c3 c4 c5 : Nat) (w : World) (k : NdNew lo hi w a1 a2 a3 a4 a5 x) (hhi : hi ≤ w.heap.size) (hs : NdSmall x) :
    Calls Tryz.prog 17 #[ndOutV x cd a1 a2 a3 a4 a5 c1 c2 c3 c4 c5, .int .i64 1] w fun e w' => e = .returned (.int .i64 ((endNd x : Nat) : Int)) ∧ NdNew lo hi w' a1 a2 a3 a4 a5 (markNd x) ∧ Out lo hi w w' := by
  have HM := fun W h hh => Lib.hid (markNode_1 (lo := lo) (hi := hi) x a1 a2 a3 a4 a5 c1 c2 c3 c4 c5 W h hh hs)
  have HK := Lib.hid k
  clear k hs
  generalize endNd x = E at *
  generalize markNd x = y at *
  obtain ⟨⟨⟨n0, n1, n2, n3, n4, n5, n6, n7⟩, ad, st, lf, tk⟩, q, t, d, g, sq⟩ := x
  unfold ndOutV
  unfold ndV at HM
  dsimp only at *
  generalize eN1 : tk.length = N1 at *
  generalize eN2 : q.length = N2 at *
  generalize eN3 : t.length = N3 at *
  generalize eN4 : d.length = N4 at *
  generalize eN5 : g.length = N5 at *
  have HEN := Lib.hid (And.intro eN1 (And.intro eN2 (And.intro eN3 (And.intro eN4 eN5))))
  clear eN1 eN2 eN3 eN4 eN5
  clear HEN
  go_enter Tryz.func17, Tryz.ntmps17
  go_wp2_with (first
    | (refine wpList_box_h rfl 50 (.tmp 0) rfl #[.int .i64 n0, .int .i64 n1, .int .i64 n2, .int .i64 n3, .int .i64 n4, .int .i64 n5, .int .i64 n6, .bool n7, .int .i64 ad, .int .i64 st, .int .i64 lf, .slice a1 N1 c1, .slice a2 N2 c2, .slice a3 N3 c3, .slice a4 N4 c4, .slice a5 N5 c5, .int .i64 sq, .int .i64 cd] rfl ?_; intro w1 R1 e1 g1 b1; have HL1 := Lib.hid (show Lg w w1 [(R1, #[.int .i64 n0, .int .i64 n1, .int .i64 n2, .int .i64 n3, .int .i64 n4, .int .i64 n5, .int .i64 n6, .bool n7, .int .i64 ad, .int .i64 st, .int .i64 lf, .slice a1 N1 c1, .slice a2 N2 c2, .slice a3 N3 c3, .slice a4 N4 c4, .slice a5 N5 c5, .int .i64 sq, .int .i64 cd], 50)] [] from (Lg.first w).box e1 g1 b1); clear g1 b1 e1)
    | (refine wpList_load_at rfl 48 (.tmp 5) rfl (R1) 0 rfl 50 #[.int .i64 n0, .int .i64 n1, .int .i64 n2, .int .i64 n3, .int .i64 n4, .int .i64 n5, .int .i64 n6, .bool n7, .int .i64 ad, .int .i64 st, .int .i64 lf, .slice a1 N1 c1, .slice a2 N2 c2, .slice a3 N3 c3, .slice a4 N4 c4, .slice a5 N5 c5, .int .i64 sq, .int .i64 cd] (0, 0) (HL1.out.get (.head _)) [.int .i64 n0, .int .i64 n1, .int .i64 n2, .int .i64 n3, .int .i64 n4, .int .i64 n5, .int .i64 n6, .bool n7, .int .i64 ad, .int .i64 st, .int .i64 lf, .slice a1 N1 c1, .slice a2 N2 c2, .slice a3 N3 c3, .slice a4 N4 c4, .slice a5 N5 c5, .int .i64 sq] rfl _ Tryz.underlying48 rfl (by kernel_rfl) ?_))
  refine (HM _ (HK.out.kept HL1.out.below) (Nat.le_trans hhi HL1.out.below.size)).out.mono ?_
  rintro e w2 ⟨rfl, hn, ho⟩
  go_wp2_with fail
  go_ret
  exact ⟨rfl, hn, (Out.of_below HL1.out.below).trans ho⟩
set_option maxRecDepth 100000 in
set_option maxHeartbeats 8000000 in
theorem heldNodeOut_1 {lo hi : Nat} (x : Nd) (cd : Int) (a1 a2 a3 a4 a5 : Option Addr) (c1 c2 c3 c4 c5 : Nat) (w : World) (k : NdNew lo hi w a1 a2 a3 a4 a5 (markNd x)) (hs : NdSmall x) :
    Calls Tryz.prog 18 #[ndOutV x cd a1 a2 a3 a4 a5 c1 c2 c3 c4 c5, .int .i64 1] w fun e w' => e = .returned (.int .i64 ((endNd x : Nat) : Int)) ∧ Below w.heap.size w w' := by
  have HM := fun W h => Lib.hid (heldNode_1 (lo := lo) (hi := hi) x a1 a2 a3 a4 a5 c1 c2 c3 c4 c5 W h hs)
  have HK := Lib.hid k
  clear k hs
  generalize endNd x = E at *
  generalize markNd x = y at *
  have hd : decide ((E : Int) < 0) = false := decide_eq_false (by omega)
  obtain ⟨⟨⟨n0, n1, n2, n3, n4, n5, n6, n7⟩, ad, st, lf, tk⟩, q, t, d, g, sq⟩ := x
  unfold ndOutV
  unfold ndV at HM
  dsimp only at *
  generalize eN1 : tk.length = N1 at *
  generalize eN2 : q.length = N2 at *
  generalize eN3 : t.length = N3 at *
  generalize eN4 : d.length = N4 at *
  generalize eN5 : g.length = N5 at *
  have HEN := Lib.hid (And.intro eN1 (And.intro eN2 (And.intro eN3 (And.intro eN4 eN5))))
  clear eN1 eN2 eN3 eN4 eN5
  clear HEN
  go_enter Tryz.func18, Tryz.ntmps18
  go_wp2_with (first
    | (refine wpList_box_h rfl 50 (.tmp 0) rfl #[.int .i64 n0, .int .i64 n1, .int .i64 n2, .int .i64 n3, .int .i64 n4, .int .i64 n5, .int .i64 n6, .bool n7, .int .i64 ad, .int .i64 st, .int .i64 lf, .slice a1 N1 c1, .slice a2 N2 c2, .slice a3 N3 c3, .slice a4 N4 c4, .slice a5 N5 c5, .int .i64 sq, .int .i64 cd] rfl ?_; intro w1 R1 e1 g1 b1; have HL1 := Lib.hid (show Lg w w1 [(R1, #[.int .i64 n0, .int .i64 n1, .int .i64 n2, .int .i64 n3, .int .i64 n4, .int .i64 n5, .int .i64 n6, .bool n7, .int .i64 ad, .int .i64 st, .int .i64 lf, .slice a1 N1 c1, .slice a2 N2 c2, .slice a3 N3 c3, .slice a4 N4 c4, .slice a5 N5 c5, .int .i64 sq, .int .i64 cd], 50)] [] from (Lg.first w).box e1 g1 b1); clear g1 b1 e1)
    | (refine wpList_load_at rfl 48 (.tmp 5) rfl (R1) 0 rfl 50 #[.int .i64 n0, .int .i64 n1, .int .i64 n2, .int .i64 n3, .int .i64 n4, .int .i64 n5, .int .i64 n6, .bool n7, .int .i64 ad, .int .i64 st, .int .i64 lf, .slice a1 N1 c1, .slice a2 N2 c2, .slice a3 N3 c3, .slice a4 N4 c4, .slice a5 N5 c5, .int .i64 sq, .int .i64 cd] (0, 0) (HL1.out.get (.head _)) [.int .i64 n0, .int .i64 n1, .int .i64 n2, .int .i64 n3, .int .i64 n4, .int .i64 n5, .int .i64 n6, .bool n7, .int .i64 ad, .int .i64 st, .int .i64 lf, .slice a1 N1 c1, .slice a2 N2 c2, .slice a3 N3 c3, .slice a4 N4 c4, .slice a5 N5 c5, .int .i64 sq] rfl _ Tryz.underlying48 rfl (by kernel_rfl) ?_))
  refine ((HM _ (HK.out.kept HL1.out.below)).out).mono ?_
  rintro e w2 ⟨rfl, h⟩
  have HL2 := Lib.hid (show Lg w w2 [(R1, #[.int .i64 n0, .int .i64 n1, .int .i64 n2, .int .i64 n3, .int .i64 n4, .int .i64 n5, .int .i64 n6, .bool n7, .int .i64 ad, .int .i64 st, .int .i64 lf, .slice a1 N1 c1, .slice a2 N2 c2, .slice a3 N3 c3, .slice a4 N4 c4, .slice a5 N5 c5, .int .i64 sq, .int .i64 cd], 50)] [] from HL1.out.kept h)
  clear h
  go_wp2_with fail
  go_ret
  exact ⟨rfl, HL2.out.below⟩
end Go.Proofs.YtioldepgoodipaaGreat
