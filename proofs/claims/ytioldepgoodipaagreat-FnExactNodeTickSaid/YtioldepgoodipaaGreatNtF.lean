/- Several texts in one, each with its own head: what is proved, and of what, stands there. -/
import Derived.Test.YtioldepgoodipaaGreatNd
import Derived.Test.YtioldepgoodipaaGreatNdTo
import Derived.Test.YtioldepgoodipaaGreatNtB
import Derived.Test.YtioldepgoodipaaGreatNtC
import Derived.Test.YtioldepgoodipaaGreatTab
import Derived.Test.YtioldepgoodipaaGreatNtD
import Derived.Test.YtioldepgoodipaaGreatRsOwn
import Derived.Test.YtioldepgoodipaaGreatNtA
import Derived.Test.YtioldepgoodipaaGreatSesTick
import Derived.Test.YtioldepgoodipaaGreatQuiet
import Derived.RangeFuncNested
import Derived.RangeFuncBound
import Derived.RangeFuncCalls
import Derived.RangeFuncLeaves
import Derived.Shelf.Abstract
import Derived.Shelf.RegionOpen
import Derived.WalkKit
import Derived.OwnWalkIn
import Derived.TacticsInMore
import Derived.LoopNIn
import Derived.LoopIn
import Derived.Maps.AppendAt
import Derived.RangeFuncBox
/- Whether a Node is right: the program's. Nothing that was there is written. -/
namespace Go.Proofs.YtioldepgoodipaaGreat
open Go.RowKit
set_option linter.unusedVariables false

/-- A Node is right. -/
def ndB (x : Nd) : Bool := clB x.c && (qRightB x.q && (tabB x.t && (dvsB x.d && (decide (x.g.length ≤ 8) && (inB 0 7 x.s && allR (fun i => gtB (gtAt x.g i)) x.g.length)))))
/-- What is said of a Node's numbers and texts. -/
def NdOk (x : Nd) : Prop := CansOk x.q ∧ SesOk x.t ∧ (∀ i, i < x.g.length → (gtAt x.g i).dt.size ≤ maxLen)
set_option maxRecDepth 100000 in
set_option maxHeartbeats 16000000 in
theorem implNodeRight_any (x : Nd) (a1 a2 a3 a4 a5 : Option Addr) (c1 c2 c3 c4 c5 : Nat) (w : World) (h : NdIn w a1 a2 a3 a4 a5 x) (hok : NdOk x) (hs : NdSmall x) (hc4 : x.d.length ≤ c4) :
    Calls Tryz.prog 65 #[ndV x a1 a2 a3 a4 a5 c1 c2 c3 c4 c5] w fun e w' => e = .returned (.bool (ndB x)) ∧ Below w.heap.size w w' := by
  have HSm := hs
  unfold NdSmall at hs
  unfold NdOk at hok
  have HB := Lib.hid (show ndB x = (clB x.c && (qRightB x.q && (tabB x.t && (dvsB x.d && (decide (x.g.length ≤ 8) && (inB 0 7 x.s && allR (fun i => gtB (gtAt x.g i)) x.g.length)))))) from rfl)
  generalize ndB x = RES at *
  obtain ⟨⟨⟨n0, n1, n2, n3, n4, n5, n6, n7⟩, ad, st, lf, tk⟩, q, t, d, g, sq⟩ := x
  obtain ⟨i1, i2, i3, i4, i5⟩ := h
  obtain ⟨s1, s2, ⟨s3, -⟩, s4, s5, -⟩ := hs
  obtain ⟨o1, o2, o3⟩ := hok
  unfold ndV
  dsimp only at *
  have HI1 := Lib.hid i1
  have HI2 := Lib.hid i2
  have HI3 := Lib.hid i3
  have HI4 := Lib.hid i4
  have HI5 := Lib.hid i5
  have HO := Lib.hid o3
  have HC1 := fun W h => Lib.hid (implClaimRight_any ⟨n0, n1, n2, n3, n4, n5, n6, n7⟩ ad st lf a1 c1 tk W h s1)
  have HC2 := fun W h => Lib.hid (implQueueRight_any a2 c2 q W h o1 s2)
  have HC3 := fun W h => Lib.hid (implTable_any a3 c3 t W h o2 (by unfold maxLen; omega))
  have HC4 := fun W h => Lib.hid (implDevicesRight_any a4 c4 d W h (by unfold maxLen; omega) hc4)
  unfold clV at HC1
  dsimp only at HC1
  clear i1 i2 i3 i4 i5 s1 s2 s3 s4 o1 o2 o3 HSm
  generalize clB ⟨⟨n0, n1, n2, n3, n4, n5, n6, n7⟩, ad, st, lf, tk⟩ = V1 at *
  generalize qRightB q = V2 at *
  generalize tabB t = V3 at *
  generalize dvsB d = V4 at *
  generalize eN1 : tk.length = N1 at *
  generalize eN2 : q.length = N2 at *
  generalize eN3 : t.length = N3 at *
  generalize eN4 : d.length = N4 at *
  obtain ⟨N5, eN5⟩ : ∃ N, g.length = N := ⟨_, rfl⟩
  have HN := Lib.hid eN5
  rw [eN5] at s5 HB ⊢
  clear eN1 eN2 eN3 eN4 eN5
  go_enter Tryz.func65, Tryz.ntmps65
  go_wp2_with (first
    | (refine wpList_box_h rfl 48 (.tmp 0) rfl #[.int .i64 n0, .int .i64 n1, .int .i64 n2, .int .i64 n3, .int .i64 n4, .int .i64 n5, .int .i64 n6, .bool n7, .int .i64 ad, .int .i64 st, .int .i64 lf, .slice a1 N1 c1, .slice a2 N2 c2, .slice a3 N3 c3, .slice a4 N4 c4, .slice a5 N5 c5, .int .i64 sq] rfl ?_; intro w1 R1 e1 g1 b1; have HL1 := Lib.hid (show Lg w w1 [(R1, #[.int .i64 n0, .int .i64 n1, .int .i64 n2, .int .i64 n3, .int .i64 n4, .int .i64 n5, .int .i64 n6, .bool n7, .int .i64 ad, .int .i64 st, .int .i64 lf, .slice a1 N1 c1, .slice a2 N2 c2, .slice a3 N3 c3, .slice a4 N4 c4, .slice a5 N5 c5, .int .i64 sq], 48)] [] from (Lg.first w).box e1 g1 b1); clear g1 b1 e1)
    | (refine wpList_load_at rfl 40 (.tmp 5) rfl (R1) 0 rfl 48 #[.int .i64 n0, .int .i64 n1, .int .i64 n2, .int .i64 n3, .int .i64 n4, .int .i64 n5, .int .i64 n6, .bool n7, .int .i64 ad, .int .i64 st, .int .i64 lf, .slice a1 N1 c1, .slice a2 N2 c2, .slice a3 N3 c3, .slice a4 N4 c4, .slice a5 N5 c5, .int .i64 sq] (0, 0) (HL1.out.get (.head _)) [.int .i64 n0, .int .i64 n1, .int .i64 n2, .int .i64 n3, .int .i64 n4, .int .i64 n5, .int .i64 n6, .bool n7, .int .i64 ad, .int .i64 st, .int .i64 lf, .slice a1 N1 c1] rfl _ Tryz.underlying40 rfl (by kernel_rfl) ?_))
  refine ((HC1 _ (HI1.out.kept HL1.out.below)).out).mono ?_
  rintro e w2 ⟨rfl, h⟩
  have HL2 := Lib.hid (show Lg w w2 [(R1, #[.int .i64 n0, .int .i64 n1, .int .i64 n2, .int .i64 n3, .int .i64 n4, .int .i64 n5, .int .i64 n6, .bool n7, .int .i64 ad, .int .i64 st, .int .i64 lf, .slice a1 N1 c1, .slice a2 N2 c2, .slice a3 N3 c3, .slice a4 N4 c4, .slice a5 N5 c5, .int .i64 sq], 48)] [] from HL1.out.kept h)
  clear h
  rcases V1 with _ | _
  · skip
    have hres : RES = false := by rw [HB.out]; rfl
    go_wp2_with fail
    go_ret
    exact ⟨by rw [hres]; rfl, HL2.out.below⟩
  go_wp2_with (first
    | (refine wpList_load_at (by kernel_rfl) 43 (.tmp 10) rfl (R1) 12 rfl 48 #[.int .i64 n0, .int .i64 n1, .int .i64 n2, .int .i64 n3, .int .i64 n4, .int .i64 n5, .int .i64 n6, .bool n7, .int .i64 ad, .int .i64 st, .int .i64 lf, .slice a1 N1 c1, .slice a2 N2 c2, .slice a3 N3 c3, .slice a4 N4 c4, .slice a5 N5 c5, .int .i64 sq] (0, 0) (HL2.out.get (.head _)) [.slice a2 N2 c2] rfl _ Tryz.underlying43 rfl (by kernel_rfl) ?_))
  refine ((HC2 _ (HI2.out.kept HL2.out.below)).out).mono ?_
  rintro e w3 ⟨rfl, h⟩
  have HL3 := Lib.hid (show Lg w w3 [(R1, #[.int .i64 n0, .int .i64 n1, .int .i64 n2, .int .i64 n3, .int .i64 n4, .int .i64 n5, .int .i64 n6, .bool n7, .int .i64 ad, .int .i64 st, .int .i64 lf, .slice a1 N1 c1, .slice a2 N2 c2, .slice a3 N3 c3, .slice a4 N4 c4, .slice a5 N5 c5, .int .i64 sq], 48)] [] from HL2.out.kept h)
  clear h
  rcases V2 with _ | _
  · skip
    have hres : RES = false := by rw [HB.out]; rfl
    go_wp2_with fail
    go_ret
    exact ⟨by rw [hres]; rfl, HL3.out.below⟩
  go_wp2_with (first
    | (refine wpList_load_one (by kernel_rfl) 44 (.tmp 16) rfl (R1) 13 rfl 48 #[.int .i64 n0, .int .i64 n1, .int .i64 n2, .int .i64 n3, .int .i64 n4, .int .i64 n5, .int .i64 n6, .bool n7, .int .i64 ad, .int .i64 st, .int .i64 lf, .slice a1 N1 c1, .slice a2 N2 c2, .slice a3 N3 c3, .slice a4 N4 c4, .slice a5 N5 c5, .int .i64 sq] (0, 0) (HL3.out.get (.head _)) (.slice a3 N3 c3) rfl _ Tryz.underlying44 rfl (by kernel_rfl) ?_))
  refine ((HC3 _ (HI3.out.kept HL3.out.below)).out).mono ?_
  rintro e w4 ⟨rfl, h⟩
  have HL4 := Lib.hid (show Lg w w4 [(R1, #[.int .i64 n0, .int .i64 n1, .int .i64 n2, .int .i64 n3, .int .i64 n4, .int .i64 n5, .int .i64 n6, .bool n7, .int .i64 ad, .int .i64 st, .int .i64 lf, .slice a1 N1 c1, .slice a2 N2 c2, .slice a3 N3 c3, .slice a4 N4 c4, .slice a5 N5 c5, .int .i64 sq], 48)] [] from HL3.out.kept h)
  clear h
  rcases V3 with _ | _
  · skip
    have hres : RES = false := by rw [HB.out]; rfl
    go_wp2_with fail
    go_ret
    exact ⟨by rw [hres]; rfl, HL4.out.below⟩
  go_wp2_with (first
    | (refine wpList_load_one (by kernel_rfl) 45 (.tmp 22) rfl (R1) 14 rfl 48 #[.int .i64 n0, .int .i64 n1, .int .i64 n2, .int .i64 n3, .int .i64 n4, .int .i64 n5, .int .i64 n6, .bool n7, .int .i64 ad, .int .i64 st, .int .i64 lf, .slice a1 N1 c1, .slice a2 N2 c2, .slice a3 N3 c3, .slice a4 N4 c4, .slice a5 N5 c5, .int .i64 sq] (0, 0) (HL4.out.get (.head _)) (.slice a4 N4 c4) rfl _ Tryz.underlying45 rfl (by kernel_rfl) ?_))
  refine ((HC4 _ (HI4.out.kept HL4.out.below)).out).mono ?_
  rintro e w5 ⟨rfl, h⟩
  have HL5 := Lib.hid (show Lg w w5 [(R1, #[.int .i64 n0, .int .i64 n1, .int .i64 n2, .int .i64 n3, .int .i64 n4, .int .i64 n5, .int .i64 n6, .bool n7, .int .i64 ad, .int .i64 st, .int .i64 lf, .slice a1 N1 c1, .slice a2 N2 c2, .slice a3 N3 c3, .slice a4 N4 c4, .slice a5 N5 c5, .int .i64 sq], 48)] [] from HL4.out.kept h)
  clear h
  rcases V4 with _ | _
  · skip
    have hres : RES = false := by rw [HB.out]; rfl
    go_wp2_with fail
    go_ret
    exact ⟨by rw [hres]; rfl, HL5.out.below⟩
  by_cases g8 : 8 < N5
  · have hd : decide ((8 : Int) < (N5 : Int)) = true := decide_eq_true (by omega)
    have hq : decide (N5 ≤ 8) = false := decide_eq_false (by omega)
    have hres : RES = false := by rw [HB.out, hq]; rfl
    go_wp2_with (first
      | (refine wpList_load_one (by kernel_rfl) 46 (.tmp 27) rfl (R1) 15 rfl 48 #[.int .i64 n0, .int .i64 n1, .int .i64 n2, .int .i64 n3, .int .i64 n4, .int .i64 n5, .int .i64 n6, .bool n7, .int .i64 ad, .int .i64 st, .int .i64 lf, .slice a1 N1 c1, .slice a2 N2 c2, .slice a3 N3 c3, .slice a4 N4 c4, .slice a5 N5 c5, .int .i64 sq] (0, 0) (HL5.out.get (.head _)) (.slice a5 N5 c5) rfl _ Tryz.underlying46 rfl (by kernel_rfl) ?_))
    go_ret
    exact ⟨by rw [hres]; rfl, HL5.out.below⟩
  have hd : decide ((8 : Int) < (N5 : Int)) = false := decide_eq_false (by omega)
  have hq8 : decide (N5 ≤ 8) = true := decide_eq_true (by omega)
  go_wp2_with (first
    | (refine wpList_load_one (by kernel_rfl) 46 (.tmp 27) rfl (R1) 15 rfl 48 #[.int .i64 n0, .int .i64 n1, .int .i64 n2, .int .i64 n3, .int .i64 n4, .int .i64 n5, .int .i64 n6, .bool n7, .int .i64 ad, .int .i64 st, .int .i64 lf, .slice a1 N1 c1, .slice a2 N2 c2, .slice a3 N3 c3, .slice a4 N4 c4, .slice a5 N5 c5, .int .i64 sq] (0, 0) (HL5.out.get (.head _)) (.slice a5 N5 c5) rfl _ Tryz.underlying46 rfl (by kernel_rfl) ?_)
    | (refine wpList_load_one (by kernel_rfl) 2 (.tmp 32) rfl (R1) 16 rfl 48 #[.int .i64 n0, .int .i64 n1, .int .i64 n2, .int .i64 n3, .int .i64 n4, .int .i64 n5, .int .i64 n6, .bool n7, .int .i64 ad, .int .i64 st, .int .i64 lf, .slice a1 N1 c1, .slice a2 N2 c2, .slice a3 N3 c3, .slice a4 N4 c4, .slice a5 N5 c5, .int .i64 sq] (0, 0) (HL5.out.get (.head _)) (.int .i64 sq) rfl _ Tryz.underlying2 rfl (by kernel_rfl) ?_))
  refine (from0_any sq 7 _).mono ?_
  rintro e w' ⟨rfl, rfl⟩
  rcases hi : inB 0 7 sq with _ | _
  · have hres : RES = false := by rw [HB.out, hq8, hi]; rfl
    go_wp2_with fail
    go_ret
    exact ⟨by rw [hres]; rfl, HL5.out.below⟩
  have HB2 := Lib.hid (show RES = allR (fun i => gtB (gtAt g i)) N5 from by rw [HB.out, hq8, hi]; rfl)
  clear HB hi
  go_wp2_with (first
    | (refine wpList_load_one (by kernel_rfl) 46 (.tmp 37) rfl (R1) 15 rfl 48 #[.int .i64 n0, .int .i64 n1, .int .i64 n2, .int .i64 n3, .int .i64 n4, .int .i64 n5, .int .i64 n6, .bool n7, .int .i64 ad, .int .i64 st, .int .i64 lf, .slice a1 N1 c1, .slice a2 N2 c2, .slice a3 N3 c3, .slice a4 N4 c4, .slice a5 N5 c5, .int .i64 sq] (0, 0) (HL5.out.get (.head _)) (.slice a5 N5 c5) rfl _ Tryz.underlying46 rfl (by kernel_rfl) ?_))
  have HI := Lib.hid (HI5.out.kept HL5.out.below)
  have HLL := Lib.hid HL5.out
  go_loopw [4, 40] (fun _ i wr => ∃ k : Nat, i = .int .i64 (k : Int) ∧ k ≤ N5 ∧ (∀ j, j < k → gtB (gtAt g j) = true) ∧ Below w5.heap.size w5 wr) (fun _ i _ => N5 - (intOf i).toNat)
  case atStart => exact ⟨0, rfl, by omega, fun j hj => absurd hj (by omega), Below.refl _ _⟩
  case round =>
    obtain ⟨k, rfl, hk, hall, hb⟩ := hrel
    have HA := Lib.hid hall
    clear hall
    by_cases hkn : k < N5
    · have hkl : k < g.length := by have := HN.out; omega
      have hi1 : (0 : Int) ≤ (k : Int) := by omega
      have hi2 : (k : Int) < (N5 : Int) := by omega
      obtain ⟨b, o, rfl, hlt, hc⟩ := HI.out.at (by omega)
      have HCs := Lib.hid (fun j v hv => (hb.cell (p := ⟨b, _, none⟩) hlt).trans (hc k _ (gtAt_some hkl) j v hv))
      have HGR := fun W => Lib.hid (gotRight_any (gtAt g k) W (HO.out k hkl))
      have HXt := Lib.hid (show gtB (gtAt g k) = true → ∀ j, j < k + 1 → gtB (gtAt g j) = true from fun h j hj => (Nat.lt_or_ge j k).elim (HA.out j) (fun q => (show j = k by omega) ▸ h))
      have HXf := Lib.hid (show gtB (gtAt g k) = false → RES = false from fun h => by rw [HB2.out]; exact allR_no hkn h)
      clear hc
      generalize gtB (gtAt g k) = GB at *
      generalize gtAt g k = x at *
      obtain ⟨s, p, dt⟩ := x
      unfold gtL at HCs HGR
      dsimp only at *
      go_wp2_with (first
        | (refine wpList_load_cells rfl 144 (.tmp 42) rfl b (o + k * 3) rfl [.int .i64 s, .int .i64 p, .string dt] HCs.out _ Tryz.underlying144 rfl (by kernel_rfl) ?_)
        | (refine wpList_alloc_h rfl 144 rfl (.agg #[.int .i64 0, .int .i64 0, .string ByteArray.empty]) (by kernel_rfl) #[.int .i64 0, .int .i64 0, .string ByteArray.empty] rfl ?_; intro v1 SR1 e1 g1 b1; have HM1 := Lib.hid (show Lg wr v1 [(SR1, #[.int .i64 0, .int .i64 0, .string ByteArray.empty], 144)] [] from (Lg.first wr).box e1 g1 b1); clear g1 b1 e1)
        | (refine wpList_put_at rfl 144 (.tmp 4) (.tmp 43) rfl rfl (SR1) 0 rfl (.agg #[.int .i64 s, .int .i64 p, .string dt]) rfl #[.int .i64 s, .int .i64 p, .string dt] rfl 144 #[.int .i64 0, .int .i64 0, .string ByteArray.empty] #[.int .i64 s, .int .i64 p, .string dt] (HM1.out.get (.head _)) (by kernel_rfl) (by kernel_rfl) (by kernel_rfl) (by kernel_rfl) ?_; intro v2 g2 o2; have HM2 := Lib.hid (show Lg wr v2 [(SR1, #[.int .i64 s, .int .i64 p, .string dt], 144)] [] from HM1.out.put 0 rfl g2 o2 (fun _ h => nomatch h) (fun _ h => nomatch h) rfl); clear g2 o2)
        | (refine wpList_load_at rfl 144 (.tmp 4) rfl (SR1) 0 rfl 144 #[.int .i64 s, .int .i64 p, .string dt] (0, 0) (HM2.out.get (.head _)) [.int .i64 s, .int .i64 p, .string dt] rfl _ Tryz.underlying144 rfl (by kernel_rfl) ?_))
      refine ((HGR _).out).mono ?_
      rintro e v3 ⟨rfl, h⟩
      have HM3 := Lib.hid (show Lg wr v3 [(SR1, #[.int .i64 s, .int .i64 p, .string dt], 144)] [] from HM2.out.kept h)
      clear h
      rcases GB with _ | _
      · have hres := HXf.out rfl
        go_wp2_with fail
        go_ret
        exact ⟨by rw [hres]; rfl, HLL.out.below.trans ((hb.trans (HM3.out.below.mono hb.size)).mono HLL.out.below.size)⟩
      have hal := Lib.hid (HXt.out rfl)
      go_wp2_with fail
      go_roundw
      case rel => exact ⟨k + 1, by go_num, by omega, hal.out, hb.trans (HM3.out.below.mono hb.size)⟩
      case measure => simp [intOf]; omega
    · have hres : RES = true := by rw [HB2.out]; exact allR_yes (fun i hi => HA.out i (by omega))
      go_wp2_with fail
      go_ret
      exact ⟨by rw [hres]; rfl, HLL.out.below.trans (hb.mono HLL.out.below.size)⟩
end Go.Proofs.YtioldepgoodipaaGreat
/- A tick of a list of Devices: the model's. The answer is in memory of its own. -/
namespace Go.Proofs.YtioldepgoodipaaGreat
open Go.RowKit
set_option linter.unusedVariables false

/-- A Device an Age older. -/
def olderD (x : Dv) : Dv := ⟨x.n, x.ad, x.g + 1⟩
theorem tickD_take {l : List Dv} {k : Nat} (h : k < l.length) : tickD (l.take (k + 1)) = tickD (l.take k) ++ (if (dvAt l k).g < 600 then [olderD (dvAt l k)] else []) := by
  rw [List.take_add_one, dvAt_some h]
  unfold tickD
  simp only [Option.toList_some, List.filter_append, List.map_append, olderD]
  split <;> simp_all
theorem tickD_len (l : List Dv) : (tickD l).length ≤ l.length := by
  unfold tickD
  rw [List.length_map]
  exact List.length_filter_le _ _
theorem dvAge_of {l : List Dv} {k : Nat} (h : dvsAt l k = true) : 0 ≤ (dvAt l k).g ∧ (dvAt l k).g ≤ 600 := (dvOkB_of (dvsAt_of h).1).2.2
/-- A list of Devices, in memory of the call's own. -/
def DvOut (w : World) (l : List Dv) (e : Ending) (w' : World) : Prop :=
  ∃ a cap, e = .returned (.slice a l.length cap) ∧ RsNew dvL 10 162 w.heap.size w'.heap.size w' a l ∧ Below w.heap.size w w'
set_option maxRecDepth 100000 in
set_option maxHeartbeats 8000000 in
theorem l09Tick_any (a : Option Addr) (cap : Nat) (l : List Dv) (w : World) (h : RsIn dvL 10 w a l) (ht : dvsB l = true) :
    Calls Tryz.prog 146 #[.slice a l.length cap] w (DvOut w (tickD l)) := by
  unfold DvOut
  obtain ⟨i0, hi, hz0, hz1, hz2⟩ := info_parts DeviceTo.info
  have HI0 := Lib.hid hi
  have HI := Lib.hid h
  have HT := Lib.hid (dvsB_of ht).2
  have h4 := (dvsB_of ht).1
  obtain ⟨N, hN⟩ : ∃ N, l.length = N := ⟨_, rfl⟩
  have HN := Lib.hid hN
  rw [hN] at h4 ⊢
  clear h ht hN hi
  go_enter Tryz.func146, Tryz.ntmps146
  go_wp2_with (refine wpList_lit0 dvL 10 rfl 45 rfl 162 i0 Tryz.underlying45 HI0.out ?_; intro w1 G e1 hown b1; subst e1; have HO0 := Lib.hid (show OwnIn dvL 10 162 w.heap.size w1.heap.size w1 _ (tickD (l.take 0)) from hown); have HB0 := Lib.hid b1; clear hown b1)
  go_loopw [3, 4, 5] (fun v i _ wr => ∃ (k : Nat) (V : Value), i = .int .i64 (k : Int) ∧ V = v ∧ k ≤ N ∧ OwnIn dvL 10 162 w.heap.size wr.heap.size wr V (tickD (l.take k)) ∧ Below w.heap.size w wr) (fun v i _ _ => N - (intOf i).toNat)
  case atStart => exact ⟨0, _, rfl, rfl, by omega, HO0.out, HB0.out⟩
  case round =>
    obtain ⟨k, V, rfl, rfl, hk, hown, hb⟩ := hrel
    have HO := Lib.hid hown
    clear hown
    by_cases hkn : k < N
    · have hkl : k < l.length := by have := HN.out; omega
      have hi1 : (0 : Int) ≤ (k : Int) := by omega
      have hi2 : (k : Int) < (N : Int) := by omega
      obtain ⟨b, o, rfl, hlt, hc⟩ := HI.out.at (by omega)
      have lB : b < wr.heap.size := Nat.lt_of_lt_of_le hlt hb.size
      have HCs := Lib.hid (fun j v hv => (hb.cell (p := ⟨b, _, none⟩) hlt).trans (hc k _ (dvAt_some hkl) j v hv))
      obtain ⟨a0, a1⟩ := dvAge_of (HT.out k hkl)
      have HX := Lib.hid (tickD_take hkl)
      have hlen : (tickD (l.take k)).length ≤ 8 := Nat.le_trans (tickD_len _) (by rw [List.length_take]; omega)
      have HLen := Lib.hid hlen
      clear hc hlen
      generalize tickD (l.take k) = L at *
      generalize dvAt l k = x at *
      obtain ⟨⟨n0, n1, n2, n3, n4, n5, n6, n7⟩, ad, g⟩ := x
      obtain ⟨LO, eLO⟩ : ∃ x, w.heap.size = x := ⟨_, rfl⟩
      obtain ⟨HI1, eHI⟩ : ∃ x, wr.heap.size = x := ⟨_, rfl⟩
      have HL1 := Lib.hid (show Lg w wr [] [(LO, HI1, fun W => OwnIn dvL 10 162 LO HI1 W V L)] from (by
        subst eLO eHI
        exact (⟨hb, fun r hr => (by cases hr), fun n hn => (by cases hn)⟩ : Lg w wr [] []).addNew HO.out.solid (Nat.le_refl _) hb.size (Nat.le_refl _)))
      unfold dvL at HCs
      dsimp only at *
      have HLO := Lib.hid eLO
      clear eLO eHI HO
      obtain ⟨A, hA⟩ : ∃ A, g + 1 = A := ⟨_, rfl⟩
      have hw : IntKind.i64.wrap (g + 1) = A := (IntWalk.i64_in _ (by omega)).trans hA
      unfold olderD at HX
      dsimp only at HX
      rw [hA] at HX
      by_cases h600 : g < 600
      · have HA := Lib.hid h600
        have d0 : decide (A ≤ 600) = true := decide_eq_true (by omega)
        clear h600 hA
        go_wp2_with (first
          | (refine wpList_load_cells rfl 162 (.tmp 15) rfl b (o + k * 10) rfl [.int .i64 n0, .int .i64 n1, .int .i64 n2, .int .i64 n3, .int .i64 n4, .int .i64 n5, .int .i64 n6, .bool n7, .int .i64 ad, .int .i64 g] HCs.out _ Tryz.underlying162 rfl (by kernel_rfl) ?_)
          | (refine wpList_alloc_h rfl 162 rfl (.agg #[.int .i64 0, .int .i64 0, .int .i64 0, .int .i64 0, .int .i64 0, .int .i64 0, .int .i64 0, .bool false, .int .i64 0, .int .i64 0]) (by kernel_rfl) #[.int .i64 0, .int .i64 0, .int .i64 0, .int .i64 0, .int .i64 0, .int .i64 0, .int .i64 0, .bool false, .int .i64 0, .int .i64 0] rfl ?_; intro w2 R2 e2 g2 b2; have qR2_HI1 : HI1 ≤ R2 := Nat.le_trans (HL1.out.hi (.head _)).2 (Nat.le_of_eq e2); have HL2 := Lib.hid (show Lg w w2 [(R2, #[.int .i64 0, .int .i64 0, .int .i64 0, .int .i64 0, .int .i64 0, .int .i64 0, .int .i64 0, .bool false, .int .i64 0, .int .i64 0], 162)] [(LO, HI1, fun W => OwnIn dvL 10 162 LO HI1 W V L)] from HL1.out.box e2 g2 b2); clear g2 b2 e2)
          | (refine wpList_put_at rfl 162 (.tmp 5) (.tmp 16) rfl rfl (R2) 0 rfl (.agg #[.int .i64 n0, .int .i64 n1, .int .i64 n2, .int .i64 n3, .int .i64 n4, .int .i64 n5, .int .i64 n6, .bool n7, .int .i64 ad, .int .i64 g]) rfl #[.int .i64 n0, .int .i64 n1, .int .i64 n2, .int .i64 n3, .int .i64 n4, .int .i64 n5, .int .i64 n6, .bool n7, .int .i64 ad, .int .i64 g] rfl 162 #[.int .i64 0, .int .i64 0, .int .i64 0, .int .i64 0, .int .i64 0, .int .i64 0, .int .i64 0, .bool false, .int .i64 0, .int .i64 0] #[.int .i64 n0, .int .i64 n1, .int .i64 n2, .int .i64 n3, .int .i64 n4, .int .i64 n5, .int .i64 n6, .bool n7, .int .i64 ad, .int .i64 g] (HL2.out.get (.head _)) (by kernel_rfl) (by kernel_rfl) (by kernel_rfl) (by kernel_rfl) ?_; intro w3 g3 o3; have HL3 := Lib.hid (show Lg w w3 [(R2, #[.int .i64 n0, .int .i64 n1, .int .i64 n2, .int .i64 n3, .int .i64 n4, .int .i64 n5, .int .i64 n6, .bool n7, .int .i64 ad, .int .i64 g], 162)] [(LO, HI1, fun W => OwnIn dvL 10 162 LO HI1 W V L)] from HL2.out.put 0 rfl g3 o3 (fun _ h => nomatch h) (List.forall_mem_cons.2 ⟨.inl qR2_HI1, (fun _ h => nomatch h)⟩) rfl); clear g3 o3)
          | (refine wpList_load_one rfl 2 (.tmp 17) rfl (R2) 9 rfl 162 #[.int .i64 n0, .int .i64 n1, .int .i64 n2, .int .i64 n3, .int .i64 n4, .int .i64 n5, .int .i64 n6, .bool n7, .int .i64 ad, .int .i64 g] (0, 0) (HL3.out.get (.head _)) (.int .i64 g) rfl _ Tryz.underlying2 rfl (by kernel_rfl) ?_)
          | (refine wpList_put_at rfl 2 (.tmp 20) (.tmp 19) rfl rfl (R2) 9 rfl (.int .i64 A) rfl #[.int .i64 A] rfl 162 #[.int .i64 n0, .int .i64 n1, .int .i64 n2, .int .i64 n3, .int .i64 n4, .int .i64 n5, .int .i64 n6, .bool n7, .int .i64 ad, .int .i64 g] #[.int .i64 n0, .int .i64 n1, .int .i64 n2, .int .i64 n3, .int .i64 n4, .int .i64 n5, .int .i64 n6, .bool n7, .int .i64 ad, .int .i64 A] (HL3.out.get (.head _)) (by kernel_rfl) (by kernel_rfl) (by kernel_rfl) (by kernel_rfl) ?_; intro w4 g4 o4; have HL4 := Lib.hid (show Lg w w4 [(R2, #[.int .i64 n0, .int .i64 n1, .int .i64 n2, .int .i64 n3, .int .i64 n4, .int .i64 n5, .int .i64 n6, .bool n7, .int .i64 ad, .int .i64 A], 162)] [(LO, HI1, fun W => OwnIn dvL 10 162 LO HI1 W V L)] from HL3.out.put 0 rfl g4 o4 (fun _ h => nomatch h) (List.forall_mem_cons.2 ⟨.inl qR2_HI1, (fun _ h => nomatch h)⟩) rfl); clear g4 o4)
          | (refine wpList_load_one rfl 2 (.tmp 21) rfl (R2) 9 rfl 162 #[.int .i64 n0, .int .i64 n1, .int .i64 n2, .int .i64 n3, .int .i64 n4, .int .i64 n5, .int .i64 n6, .bool n7, .int .i64 ad, .int .i64 A] (0, 0) (HL4.out.get (.head _)) (.int .i64 A) rfl _ Tryz.underlying2 rfl (by kernel_rfl) ?_)
          | (refine wpList_load_at rfl 162 (.tmp 5) rfl (R2) 0 rfl 162 #[.int .i64 n0, .int .i64 n1, .int .i64 n2, .int .i64 n3, .int .i64 n4, .int .i64 n5, .int .i64 n6, .bool n7, .int .i64 ad, .int .i64 A] (0, 0) (HL4.out.get (.head _)) [.int .i64 n0, .int .i64 n1, .int .i64 n2, .int .i64 n3, .int .i64 n4, .int .i64 n5, .int .i64 n6, .bool n7, .int .i64 ad, .int .i64 A] rfl _ Tryz.underlying162 rfl (by kernel_rfl) ?_)
          | (refine wpList_lit1 dvL_len rfl 45 (.tmp 25) rfl 162 i0 Tryz.underlying45 HI0.out _ hz0 hz1 ⟨⟨n0, n1, n2, n3, n4, n5, n6, n7⟩, ad, A⟩ (.agg #[.int .i64 n0, .int .i64 n1, .int .i64 n2, .int .i64 n3, .int .i64 n4, .int .i64 n5, .int .i64 n6, .bool n7, .int .i64 ad, .int .i64 A]) rfl rfl (by kernel_rfl) (by decide) (by decide) ?_; intro w20 R20 e20 hin20 b20; have HR20 := Lib.hid hin20; have HL20 := Lib.hid (HL4.out.kept b20); clear e20 hin20 b20)
          | (at_builtin; refine wpList_append_rs dvL_len dvL_one rfl (.tmp 24) (.tmp 26) 45 rfl 162 i0 _ 80 Tryz.underlying45 HI0.out hz0 hz1 hz2 (by kernel_rfl) (by decide) LO HI1 V L rfl (HL20.out.at (.head _)) _ 1 [⟨⟨n0, n1, n2, n3, n4, n5, n6, n7⟩, ad, A⟩] rfl HR20.out (by have := HLen.out; unfold maxLen; show _ + 1 ≤ _; omega) (by have := HLen.out; show (_ + 1) * 80 ≤ _; omega) (Nat.le_trans (HL20.out.hi (.head _)).1 (HL20.out.hi (.head _)).2) ?_; intro v21 w21 hown21 ho21; have HO21 := Lib.hid hown21; have HU21 := Lib.hid ho21; clear hown21 ho21))
        go_roundw
        case rel =>
          refine ⟨k + 1, _, by go_num, rfl, by omega, ?_, HU21.out.below HL20.out.below (HL20.out.lo (.head _)) HL20.out.below.size⟩
          have h := HO21.out
          rw [HX.out, if_pos HA.out]
          have e := HLO.out
          subst e
          exact h
        case measure => simp [intOf]; omega
      · have HA := Lib.hid h600
        have d0 : decide (A ≤ 600) = false := decide_eq_false (by omega)
        clear h600 hA
        go_wp2_with (first
          | (refine wpList_load_cells rfl 162 (.tmp 15) rfl b (o + k * 10) rfl [.int .i64 n0, .int .i64 n1, .int .i64 n2, .int .i64 n3, .int .i64 n4, .int .i64 n5, .int .i64 n6, .bool n7, .int .i64 ad, .int .i64 g] HCs.out _ Tryz.underlying162 rfl (by kernel_rfl) ?_)
          | (refine wpList_alloc_h rfl 162 rfl (.agg #[.int .i64 0, .int .i64 0, .int .i64 0, .int .i64 0, .int .i64 0, .int .i64 0, .int .i64 0, .bool false, .int .i64 0, .int .i64 0]) (by kernel_rfl) #[.int .i64 0, .int .i64 0, .int .i64 0, .int .i64 0, .int .i64 0, .int .i64 0, .int .i64 0, .bool false, .int .i64 0, .int .i64 0] rfl ?_; intro w2 R2 e2 g2 b2; have qR2_HI1 : HI1 ≤ R2 := Nat.le_trans (HL1.out.hi (.head _)).2 (Nat.le_of_eq e2); have HL2 := Lib.hid (show Lg w w2 [(R2, #[.int .i64 0, .int .i64 0, .int .i64 0, .int .i64 0, .int .i64 0, .int .i64 0, .int .i64 0, .bool false, .int .i64 0, .int .i64 0], 162)] [(LO, HI1, fun W => OwnIn dvL 10 162 LO HI1 W V L)] from HL1.out.box e2 g2 b2); clear g2 b2 e2)
          | (refine wpList_put_at rfl 162 (.tmp 5) (.tmp 16) rfl rfl (R2) 0 rfl (.agg #[.int .i64 n0, .int .i64 n1, .int .i64 n2, .int .i64 n3, .int .i64 n4, .int .i64 n5, .int .i64 n6, .bool n7, .int .i64 ad, .int .i64 g]) rfl #[.int .i64 n0, .int .i64 n1, .int .i64 n2, .int .i64 n3, .int .i64 n4, .int .i64 n5, .int .i64 n6, .bool n7, .int .i64 ad, .int .i64 g] rfl 162 #[.int .i64 0, .int .i64 0, .int .i64 0, .int .i64 0, .int .i64 0, .int .i64 0, .int .i64 0, .bool false, .int .i64 0, .int .i64 0] #[.int .i64 n0, .int .i64 n1, .int .i64 n2, .int .i64 n3, .int .i64 n4, .int .i64 n5, .int .i64 n6, .bool n7, .int .i64 ad, .int .i64 g] (HL2.out.get (.head _)) (by kernel_rfl) (by kernel_rfl) (by kernel_rfl) (by kernel_rfl) ?_; intro w3 g3 o3; have HL3 := Lib.hid (show Lg w w3 [(R2, #[.int .i64 n0, .int .i64 n1, .int .i64 n2, .int .i64 n3, .int .i64 n4, .int .i64 n5, .int .i64 n6, .bool n7, .int .i64 ad, .int .i64 g], 162)] [(LO, HI1, fun W => OwnIn dvL 10 162 LO HI1 W V L)] from HL2.out.put 0 rfl g3 o3 (fun _ h => nomatch h) (List.forall_mem_cons.2 ⟨.inl qR2_HI1, (fun _ h => nomatch h)⟩) rfl); clear g3 o3)
          | (refine wpList_load_one rfl 2 (.tmp 17) rfl (R2) 9 rfl 162 #[.int .i64 n0, .int .i64 n1, .int .i64 n2, .int .i64 n3, .int .i64 n4, .int .i64 n5, .int .i64 n6, .bool n7, .int .i64 ad, .int .i64 g] (0, 0) (HL3.out.get (.head _)) (.int .i64 g) rfl _ Tryz.underlying2 rfl (by kernel_rfl) ?_)
          | (refine wpList_put_at rfl 2 (.tmp 20) (.tmp 19) rfl rfl (R2) 9 rfl (.int .i64 A) rfl #[.int .i64 A] rfl 162 #[.int .i64 n0, .int .i64 n1, .int .i64 n2, .int .i64 n3, .int .i64 n4, .int .i64 n5, .int .i64 n6, .bool n7, .int .i64 ad, .int .i64 g] #[.int .i64 n0, .int .i64 n1, .int .i64 n2, .int .i64 n3, .int .i64 n4, .int .i64 n5, .int .i64 n6, .bool n7, .int .i64 ad, .int .i64 A] (HL3.out.get (.head _)) (by kernel_rfl) (by kernel_rfl) (by kernel_rfl) (by kernel_rfl) ?_; intro w4 g4 o4; have HL4 := Lib.hid (show Lg w w4 [(R2, #[.int .i64 n0, .int .i64 n1, .int .i64 n2, .int .i64 n3, .int .i64 n4, .int .i64 n5, .int .i64 n6, .bool n7, .int .i64 ad, .int .i64 A], 162)] [(LO, HI1, fun W => OwnIn dvL 10 162 LO HI1 W V L)] from HL3.out.put 0 rfl g4 o4 (fun _ h => nomatch h) (List.forall_mem_cons.2 ⟨.inl qR2_HI1, (fun _ h => nomatch h)⟩) rfl); clear g4 o4)
          | (refine wpList_load_one rfl 2 (.tmp 21) rfl (R2) 9 rfl 162 #[.int .i64 n0, .int .i64 n1, .int .i64 n2, .int .i64 n3, .int .i64 n4, .int .i64 n5, .int .i64 n6, .bool n7, .int .i64 ad, .int .i64 A] (0, 0) (HL4.out.get (.head _)) (.int .i64 A) rfl _ Tryz.underlying2 rfl (by kernel_rfl) ?_))
        go_roundw
        case rel =>
          refine ⟨k + 1, _, by go_num, rfl, by omega, ?_, HL4.out.below⟩
          have h := (HL4.out.at (.head _)).wide (HL4.out.hi (.head _)).2
          rw [HX.out, if_neg HA.out, List.append_nil]
          have e := HLO.out
          subst e
          exact h
        case measure => simp [intOf]; omega
    · have hge : N ≤ k := by omega
      have HV := Lib.hid (show l.take k = l from List.take_of_length_le (by have := HN.out; omega))
      clear hkn
      go_wp2_with fail
      go_ret
      obtain ⟨a', cap', rfl, _, hn⟩ := HO.out.new dvL_len
      rw [HV.out] at hn ⊢
      exact ⟨a', cap', rfl, hn, hb⟩
end Go.Proofs.YtioldepgoodipaaGreat
/- A right Node's lists are short. -/
namespace Go.Proofs.YtioldepgoodipaaGreat
open Go.RowKit
set_option linter.unusedVariables false

theorem ndB_of {x : Nd} (h : ndB x = true) : clB x.c = true ∧ qRightB x.q = true ∧ tabB x.t = true ∧ dvsB x.d = true ∧ x.g.length ≤ 8 ∧ inB 0 7 x.s = true ∧ ∀ i, i < x.g.length → gtB (gtAt x.g i) = true := by
  unfold ndB at h
  simp only [Bool.and_eq_true, decide_eq_true_eq] at h
  obtain ⟨h1, h2, h3, h4, h5, h6, h7⟩ := h
  exact ⟨h1, h2, h3, h4, h5, h6, allR_of h7⟩
/-- None of its lists, and no text in them, is long. -/
structure NdFit (x : Nd) : Prop where
  small : NdSmall x
  cans : CansSmall x.q
  ses : ∀ i, i < x.t.length → (seAt x.t i).dt.size ≤ 1000000
  gots : ∀ i, i < x.g.length → (gtAt x.g i).dt.size ≤ 1000000
theorem tab_small {l : List Se} (h : tabB l = true) : ∀ x ∈ l, x.dt.size ≤ 223 := by
  intro x hx
  obtain ⟨i, hi, rfl⟩ := List.mem_iff_getElem.1 hx
  have h1 := (tabB_of h).2 i hi
  have e : seAt l i = l[i] := by
    have := seAt_some hi
    rw [List.getElem?_eq_getElem hi] at this
    exact (Option.some.inj this).symm
  unfold okAt at h1
  rw [e, Bool.and_eq_true] at h1
  have h2 := h1.1
  unfold seB at h2
  simp only [Bool.and_eq_true, decide_eq_true_eq] at h2
  have h3 := inB_of h2.2.2.2.2.1
  have h4 := h2.2.2.2.2.2.2.2
  omega
theorem se_small {l : List Se} {n : Nat} (h : ∀ x ∈ l, x.dt.size ≤ n) : ∀ i, i < l.length → (seAt l i).dt.size ≤ n := fun i hi => h _ (List.mem_of_getElem? (seAt_some hi))
theorem tick_small {l : List Se} {n : Nat} (h : ∀ x ∈ l, x.dt.size ≤ n) : ∀ x ∈ tickL l, x.dt.size ≤ n := by
  intro x hx
  unfold tickL at hx
  obtain ⟨y, hy, rfl⟩ := List.mem_map.1 hx
  exact h y (List.mem_filter.1 hy).1
theorem got_small {g : Gt} (h : gtB g = true) : g.dt.size ≤ 223 := by
  unfold gtB at h
  simp only [Bool.and_eq_true, decide_eq_true_eq, beq_iff_eq] at h
  have h1 : (defD g.p).s ≤ 223 := by
    have := ixD_le g.p
    unfold defD
    generalize ixD g.p = i at *
    rcases i with _ | _ | _ | _ | _ | _ | _ | i
    all_goals first | decide | omega
  have := h.2.2
  omega
theorem fit_of {x : Nd} (h : ndB x = true) : NdFit x := by
  obtain ⟨h1, h2, h3, h4, h5, h6, h7⟩ := ndB_of h
  have k1 := (clB_of h1).2.1
  have k2 := (qRightB_of h2).1
  have k3 := (tabB_of h3).1
  have k4 := (dvsB_of h4).1
  have s3 := se_small (tab_small h3)
  exact ⟨⟨by omega, by omega, ⟨by omega, fun i hi => by have := s3 i hi; omega⟩, by omega, ⟨by omega, fun i hi => by have := got_small (h7 i hi); omega⟩⟩, CansSmall.of_all (qRightB_of h2).2, fun i hi => by have := s3 i hi; omega, fun i hi => by have := got_small (h7 i hi); omega⟩
/-- A Node a tick later. -/
def ndTick (x : Nd) : Nd := ⟨tickC x.c, x.q, tickL x.t, tickD x.d, x.g, x.s⟩
theorem tickC_tk (c : Cl) : (tickC c).tk = c.tk := by
  unfold tickC
  split <;> rfl
theorem fit_tick {x : Nd} (h : ndB x = true) : NdFit (ndTick x) := by
  have f := fit_of h
  obtain ⟨h1, h2, h3, h4, h5, h6, h7⟩ := ndB_of h
  have k1 := (clB_of h1).2.1
  have k3 := (tabB_of h3).1
  have k4 := (dvsB_of h4).1
  have t3 := tickL_len x.t
  have t4 := tickD_len x.d
  have s3 := se_small (tick_small (tab_small h3))
  refine ⟨⟨?_, f.small.2.1, ⟨?_, fun i hi => ?_⟩, ?_, f.small.2.2.2.2⟩, f.cans, fun i hi => ?_, f.gots⟩
  · show (tickC x.c).tk.length ≤ 1048576
    rw [tickC_tk]
    omega
  · show (tickL x.t).length ≤ 1048576
    omega
  · have := s3 i hi
    show (seAt (tickL x.t) i).dt.size ≤ 1048576
    omega
  · show (tickD x.d).length ≤ 1048576
    omega
  · have := s3 i hi
    show (seAt (tickL x.t) i).dt.size ≤ 1000000
    omega
end Go.Proofs.YtioldepgoodipaaGreat
/- Whether a Node is right: the model's. Nothing that was there is written. -/
namespace Go.Proofs.YtioldepgoodipaaGreat
open Go.RowKit
set_option linter.unusedVariables false

set_option maxRecDepth 100000 in
set_option maxHeartbeats 16000000 in
theorem specNodeRight_any (x : Nd) (a1 a2 a3 a4 a5 : Option Addr) (c1 c2 c3 c4 c5 : Nat) (w : World) (h : NdIn w a1 a2 a3 a4 a5 x) (hok : NdOk x) (hs : NdSmall x) :
    Calls Tryz.prog 31 #[ndV x a1 a2 a3 a4 a5 c1 c2 c3 c4 c5] w fun e w' => e = .returned (.bool (ndB x)) ∧ Below w.heap.size w w' := by
  have HSm := hs
  unfold NdSmall at hs
  unfold NdOk at hok
  have HB := Lib.hid (show ndB x = (clB x.c && (qRightB x.q && (tabB x.t && (dvsB x.d && (decide (x.g.length ≤ 8) && (inB 0 7 x.s && allR (fun i => gtB (gtAt x.g i)) x.g.length)))))) from rfl)
  generalize ndB x = RES at *
  obtain ⟨⟨⟨n0, n1, n2, n3, n4, n5, n6, n7⟩, ad, st, lf, tk⟩, q, t, d, g, sq⟩ := x
  obtain ⟨i1, i2, i3, i4, i5⟩ := h
  obtain ⟨s1, s2, ⟨s3, -⟩, s4, s5, -⟩ := hs
  obtain ⟨o1, o2, o3⟩ := hok
  unfold ndV
  dsimp only at *
  have HI1 := Lib.hid i1
  have HI2 := Lib.hid i2
  have HI3 := Lib.hid i3
  have HI4 := Lib.hid i4
  have HI5 := Lib.hid i5
  have HO := Lib.hid o3
  have HC1 := fun W h => Lib.hid (specClaimRight_any ⟨n0, n1, n2, n3, n4, n5, n6, n7⟩ ad st lf a1 c1 tk W h s1)
  have HC2 := fun W h => Lib.hid (specQueueRight_any a2 c2 q W h o1 s2)
  have HC3 := fun W h => Lib.hid (specTable_any a3 c3 t W h o2 (by unfold maxLen; omega))
  have HC4 := fun W h => Lib.hid (specDevicesRight_any a4 c4 d W h (by unfold maxLen; omega))
  unfold clV at HC1
  dsimp only at HC1
  clear i1 i2 i3 i4 i5 s1 s2 s3 s4 o1 o2 o3 HSm
  generalize clB ⟨⟨n0, n1, n2, n3, n4, n5, n6, n7⟩, ad, st, lf, tk⟩ = V1 at *
  generalize qRightB q = V2 at *
  generalize tabB t = V3 at *
  generalize dvsB d = V4 at *
  generalize eN1 : tk.length = N1 at *
  generalize eN2 : q.length = N2 at *
  generalize eN3 : t.length = N3 at *
  generalize eN4 : d.length = N4 at *
  obtain ⟨N5, eN5⟩ : ∃ N, g.length = N := ⟨_, rfl⟩
  have HN := Lib.hid eN5
  rw [eN5] at s5 HB ⊢
  clear eN1 eN2 eN3 eN4 eN5
  go_enter Tryz.func31, Tryz.ntmps31
  go_wp2_with (first
    | (refine wpList_box_h rfl 48 (.tmp 0) rfl #[.int .i64 n0, .int .i64 n1, .int .i64 n2, .int .i64 n3, .int .i64 n4, .int .i64 n5, .int .i64 n6, .bool n7, .int .i64 ad, .int .i64 st, .int .i64 lf, .slice a1 N1 c1, .slice a2 N2 c2, .slice a3 N3 c3, .slice a4 N4 c4, .slice a5 N5 c5, .int .i64 sq] rfl ?_; intro w1 R1 e1 g1 b1; have HL1 := Lib.hid (show Lg w w1 [(R1, #[.int .i64 n0, .int .i64 n1, .int .i64 n2, .int .i64 n3, .int .i64 n4, .int .i64 n5, .int .i64 n6, .bool n7, .int .i64 ad, .int .i64 st, .int .i64 lf, .slice a1 N1 c1, .slice a2 N2 c2, .slice a3 N3 c3, .slice a4 N4 c4, .slice a5 N5 c5, .int .i64 sq], 48)] [] from (Lg.first w).box e1 g1 b1); clear g1 b1 e1)
    | (refine wpList_load_at rfl 40 (.tmp 5) rfl (R1) 0 rfl 48 #[.int .i64 n0, .int .i64 n1, .int .i64 n2, .int .i64 n3, .int .i64 n4, .int .i64 n5, .int .i64 n6, .bool n7, .int .i64 ad, .int .i64 st, .int .i64 lf, .slice a1 N1 c1, .slice a2 N2 c2, .slice a3 N3 c3, .slice a4 N4 c4, .slice a5 N5 c5, .int .i64 sq] (0, 0) (HL1.out.get (.head _)) [.int .i64 n0, .int .i64 n1, .int .i64 n2, .int .i64 n3, .int .i64 n4, .int .i64 n5, .int .i64 n6, .bool n7, .int .i64 ad, .int .i64 st, .int .i64 lf, .slice a1 N1 c1] rfl _ Tryz.underlying40 rfl (by kernel_rfl) ?_))
  refine ((HC1 _ (HI1.out.kept HL1.out.below)).out).mono ?_
  rintro e w2 ⟨rfl, h⟩
  have HL2 := Lib.hid (show Lg w w2 [(R1, #[.int .i64 n0, .int .i64 n1, .int .i64 n2, .int .i64 n3, .int .i64 n4, .int .i64 n5, .int .i64 n6, .bool n7, .int .i64 ad, .int .i64 st, .int .i64 lf, .slice a1 N1 c1, .slice a2 N2 c2, .slice a3 N3 c3, .slice a4 N4 c4, .slice a5 N5 c5, .int .i64 sq], 48)] [] from HL1.out.kept h)
  clear h
  rcases V1 with _ | _
  · skip
    have hres : RES = false := by rw [HB.out]; rfl
    go_wp2_with fail
    go_ret
    exact ⟨by rw [hres]; rfl, HL2.out.below⟩
  go_wp2_with (first
    | (refine wpList_load_at (by kernel_rfl) 43 (.tmp 10) rfl (R1) 12 rfl 48 #[.int .i64 n0, .int .i64 n1, .int .i64 n2, .int .i64 n3, .int .i64 n4, .int .i64 n5, .int .i64 n6, .bool n7, .int .i64 ad, .int .i64 st, .int .i64 lf, .slice a1 N1 c1, .slice a2 N2 c2, .slice a3 N3 c3, .slice a4 N4 c4, .slice a5 N5 c5, .int .i64 sq] (0, 0) (HL2.out.get (.head _)) [.slice a2 N2 c2] rfl _ Tryz.underlying43 rfl (by kernel_rfl) ?_))
  refine ((HC2 _ (HI2.out.kept HL2.out.below)).out).mono ?_
  rintro e w3 ⟨rfl, h⟩
  have HL3 := Lib.hid (show Lg w w3 [(R1, #[.int .i64 n0, .int .i64 n1, .int .i64 n2, .int .i64 n3, .int .i64 n4, .int .i64 n5, .int .i64 n6, .bool n7, .int .i64 ad, .int .i64 st, .int .i64 lf, .slice a1 N1 c1, .slice a2 N2 c2, .slice a3 N3 c3, .slice a4 N4 c4, .slice a5 N5 c5, .int .i64 sq], 48)] [] from HL2.out.kept h)
  clear h
  rcases V2 with _ | _
  · skip
    have hres : RES = false := by rw [HB.out]; rfl
    go_wp2_with fail
    go_ret
    exact ⟨by rw [hres]; rfl, HL3.out.below⟩
  go_wp2_with (first
    | (refine wpList_load_one (by kernel_rfl) 44 (.tmp 16) rfl (R1) 13 rfl 48 #[.int .i64 n0, .int .i64 n1, .int .i64 n2, .int .i64 n3, .int .i64 n4, .int .i64 n5, .int .i64 n6, .bool n7, .int .i64 ad, .int .i64 st, .int .i64 lf, .slice a1 N1 c1, .slice a2 N2 c2, .slice a3 N3 c3, .slice a4 N4 c4, .slice a5 N5 c5, .int .i64 sq] (0, 0) (HL3.out.get (.head _)) (.slice a3 N3 c3) rfl _ Tryz.underlying44 rfl (by kernel_rfl) ?_))
  refine ((HC3 _ (HI3.out.kept HL3.out.below)).out).mono ?_
  rintro e w4 ⟨rfl, h⟩
  have HL4 := Lib.hid (show Lg w w4 [(R1, #[.int .i64 n0, .int .i64 n1, .int .i64 n2, .int .i64 n3, .int .i64 n4, .int .i64 n5, .int .i64 n6, .bool n7, .int .i64 ad, .int .i64 st, .int .i64 lf, .slice a1 N1 c1, .slice a2 N2 c2, .slice a3 N3 c3, .slice a4 N4 c4, .slice a5 N5 c5, .int .i64 sq], 48)] [] from HL3.out.kept h)
  clear h
  rcases V3 with _ | _
  · skip
    have hres : RES = false := by rw [HB.out]; rfl
    go_wp2_with fail
    go_ret
    exact ⟨by rw [hres]; rfl, HL4.out.below⟩
  go_wp2_with (first
    | (refine wpList_load_one (by kernel_rfl) 45 (.tmp 22) rfl (R1) 14 rfl 48 #[.int .i64 n0, .int .i64 n1, .int .i64 n2, .int .i64 n3, .int .i64 n4, .int .i64 n5, .int .i64 n6, .bool n7, .int .i64 ad, .int .i64 st, .int .i64 lf, .slice a1 N1 c1, .slice a2 N2 c2, .slice a3 N3 c3, .slice a4 N4 c4, .slice a5 N5 c5, .int .i64 sq] (0, 0) (HL4.out.get (.head _)) (.slice a4 N4 c4) rfl _ Tryz.underlying45 rfl (by kernel_rfl) ?_))
  refine ((HC4 _ (HI4.out.kept HL4.out.below)).out).mono ?_
  rintro e w5 ⟨rfl, h⟩
  have HL5 := Lib.hid (show Lg w w5 [(R1, #[.int .i64 n0, .int .i64 n1, .int .i64 n2, .int .i64 n3, .int .i64 n4, .int .i64 n5, .int .i64 n6, .bool n7, .int .i64 ad, .int .i64 st, .int .i64 lf, .slice a1 N1 c1, .slice a2 N2 c2, .slice a3 N3 c3, .slice a4 N4 c4, .slice a5 N5 c5, .int .i64 sq], 48)] [] from HL4.out.kept h)
  clear h
  rcases V4 with _ | _
  · skip
    have hres : RES = false := by rw [HB.out]; rfl
    go_wp2_with fail
    go_ret
    exact ⟨by rw [hres]; rfl, HL5.out.below⟩
  by_cases g8 : 8 < N5
  · have hd : decide ((8 : Int) < (N5 : Int)) = true := decide_eq_true (by omega)
    have hq : decide (N5 ≤ 8) = false := decide_eq_false (by omega)
    have hres : RES = false := by rw [HB.out, hq]; rfl
    go_wp2_with (first
      | (refine wpList_load_one (by kernel_rfl) 46 (.tmp 28) rfl (R1) 15 rfl 48 #[.int .i64 n0, .int .i64 n1, .int .i64 n2, .int .i64 n3, .int .i64 n4, .int .i64 n5, .int .i64 n6, .bool n7, .int .i64 ad, .int .i64 st, .int .i64 lf, .slice a1 N1 c1, .slice a2 N2 c2, .slice a3 N3 c3, .slice a4 N4 c4, .slice a5 N5 c5, .int .i64 sq] (0, 0) (HL5.out.get (.head _)) (.slice a5 N5 c5) rfl _ Tryz.underlying46 rfl (by kernel_rfl) ?_))
    go_ret
    exact ⟨by rw [hres]; rfl, HL5.out.below⟩
  have hd : decide ((8 : Int) < (N5 : Int)) = false := decide_eq_false (by omega)
  have hq8 : decide (N5 ≤ 8) = true := decide_eq_true (by omega)
  go_wp2_with (first
    | (refine wpList_load_one (by kernel_rfl) 46 (.tmp 28) rfl (R1) 15 rfl 48 #[.int .i64 n0, .int .i64 n1, .int .i64 n2, .int .i64 n3, .int .i64 n4, .int .i64 n5, .int .i64 n6, .bool n7, .int .i64 ad, .int .i64 st, .int .i64 lf, .slice a1 N1 c1, .slice a2 N2 c2, .slice a3 N3 c3, .slice a4 N4 c4, .slice a5 N5 c5, .int .i64 sq] (0, 0) (HL5.out.get (.head _)) (.slice a5 N5 c5) rfl _ Tryz.underlying46 rfl (by kernel_rfl) ?_)
    | (refine wpList_load_one (by kernel_rfl) 2 (.tmp 34) rfl (R1) 16 rfl 48 #[.int .i64 n0, .int .i64 n1, .int .i64 n2, .int .i64 n3, .int .i64 n4, .int .i64 n5, .int .i64 n6, .bool n7, .int .i64 ad, .int .i64 st, .int .i64 lf, .slice a1 N1 c1, .slice a2 N2 c2, .slice a3 N3 c3, .slice a4 N4 c4, .slice a5 N5 c5, .int .i64 sq] (0, 0) (HL5.out.get (.head _)) (.int .i64 sq) rfl _ Tryz.underlying2 rfl (by kernel_rfl) ?_))
  refine (l02Is_any sq 0 7 _).mono ?_
  rintro e w' ⟨rfl, rfl⟩
  rcases hi : inB 0 7 sq with _ | _
  · have hres : RES = false := by rw [HB.out, hq8, hi]; rfl
    go_wp2_with fail
    go_ret
    exact ⟨by rw [hres]; rfl, HL5.out.below⟩
  have HB2 := Lib.hid (show RES = allR (fun i => gtB (gtAt g i)) N5 from by rw [HB.out, hq8, hi]; rfl)
  clear HB hi
  go_wp2_with fail
  have HI := Lib.hid (HI5.out.kept HL5.out.below)
  have HLL := Lib.hid HL5.out
  have HRB := Lib.hid (HL5.out.get (.head _))
  have hRlt : R1 < w5.heap.size := HL5.out.lt (.head _)
  go_loopw [3, 4] (fun i _ wr => ∃ k : Nat, i = .int .i64 (k : Int) ∧ k ≤ N5 ∧ (∀ j, j < k → gtB (gtAt g j) = true) ∧ Below w5.heap.size w5 wr) (fun i _ _ => N5 - (intOf i).toNat)
  case atStart => exact ⟨0, rfl, by omega, fun j hj => absurd hj (by omega), Below.refl _ _⟩
  case round =>
    obtain ⟨k, rfl, hk, hall, hb⟩ := hrel
    have HA := Lib.hid hall
    have HR2 := Lib.hid ((hb.block R1 hRlt).trans HRB.out)
    have hRl2 : R1 < wr.heap.size := Nat.lt_of_lt_of_le hRlt hb.size
    clear hall
    by_cases hkn : k < N5
    · have hkl : k < g.length := by have := HN.out; omega
      have hi1 : (0 : Int) ≤ (k : Int) := by omega
      have hi2 : (k : Int) < (N5 : Int) := by omega
      obtain ⟨b, o, rfl, hlt, hc⟩ := HI.out.at (by omega)
      have lB : b < wr.heap.size := Nat.lt_of_lt_of_le hlt hb.size
      have HCs := Lib.hid (fun j v hv => (hb.cell (p := ⟨b, _, none⟩) hlt).trans (hc k _ (gtAt_some hkl) j v hv))
      have HSz := Lib.hid (HO.out k hkl)
      have HXt := Lib.hid (show gtB (gtAt g k) = true → ∀ j, j < k + 1 → gtB (gtAt g j) = true from fun h j hj => (Nat.lt_or_ge j k).elim (HA.out j) (fun q => (show j = k by omega) ▸ h))
      have HXf := Lib.hid (show gtB (gtAt g k) = false → RES = false from fun h => by rw [HB2.out]; exact allR_no hkn h)
      have HGB := Lib.hid (show gtB (gtAt g k) = (decide (ixD (gtAt g k).p < 6) && (inB 0 255 (gtAt g k).s && (((gtAt g k).dt.size : Int) == (defD (gtAt g k).p).s))) from rfl)
      clear hc
      generalize gtB (gtAt g k) = GB at *
      generalize gtAt g k = x at *
      obtain ⟨s, p, dt⟩ := x
      unfold gtL at HCs
      dsimp only at *
      have HZ := Lib.hid (defD_zero p)
      have HDf := fun W => Lib.hid (specDefOf_any p W)
      unfold DefOut at HDf
      generalize decide (ixD p < 6) = DD at *
      generalize (defD p).p = PP at *
      generalize (defD p).s = SS at *
      generalize (defD p).r = RR at *
      generalize (defD p).fs = FF at *
      have cS := HCs.out 0 _ rfl
      have cP := HCs.out 1 _ rfl
      have cD := HCs.out 2 _ rfl
      rw [Nat.add_zero] at cS
      have CS := Lib.hid cS
      have CP := Lib.hid cP
      have CD := Lib.hid cD
      have hsz := HSz.out
      unfold maxLen at hsz
      clear HCs cS cP cD HSz
      go_wp2_with (first
        | (refine wpList_load_one (by kernel_rfl) 46 (.tmp 40) rfl (R1) 15 rfl 48 #[.int .i64 n0, .int .i64 n1, .int .i64 n2, .int .i64 n3, .int .i64 n4, .int .i64 n5, .int .i64 n6, .bool n7, .int .i64 ad, .int .i64 st, .int .i64 lf, .slice a1 N1 c1, .slice a2 N2 c2, .slice a3 N3 c3, .slice a4 N4 c4, .slice (some ⟨b, o, none⟩) N5 c5, .int .i64 sq] (0, 0) HR2.out (.slice (some ⟨b, o, none⟩) N5 c5) rfl _ Tryz.underlying46 rfl (by kernel_rfl) ?_)
        | (refine wpList_load_one (by kernel_rfl) 46 (.tmp 46) rfl (R1) 15 rfl 48 #[.int .i64 n0, .int .i64 n1, .int .i64 n2, .int .i64 n3, .int .i64 n4, .int .i64 n5, .int .i64 n6, .bool n7, .int .i64 ad, .int .i64 st, .int .i64 lf, .slice a1 N1 c1, .slice a2 N2 c2, .slice a3 N3 c3, .slice a4 N4 c4, .slice (some ⟨b, o, none⟩) N5 c5, .int .i64 sq] (0, 0) HR2.out (.slice (some ⟨b, o, none⟩) N5 c5) rfl _ Tryz.underlying46 rfl (by kernel_rfl) ?_)
        | (refine wpList_load_one1 (by kernel_rfl) 2 (.tmp 50) rfl b (o + k * 3 + 1) rfl (.int .i64 p) CP.out _ Tryz.underlying2 rfl ?_))
      refine (HDf _).out.mono ?_
      rintro e v1 ⟨aF, rfl, -, h1⟩
      have HM1 := Lib.hid (show Lg wr v1 [] [] from (Lg.first wr).kept h1)
      clear h1
      go_wp2_with (first
        | (refine wpList_alloc_h rfl 81 rfl (.agg #[.int .i64 0, .int .i64 0, .int .i64 0, .slice none 0 0]) (by kernel_rfl) #[.int .i64 0, .int .i64 0, .int .i64 0, .slice none 0 0] rfl ?_; intro v2 SR2 e2 g2 b2; have HM2 := Lib.hid (show Lg wr v2 [(SR2, #[.int .i64 0, .int .i64 0, .int .i64 0, .slice none 0 0], 81)] [] from HM1.out.box e2 g2 b2); clear g2 b2 e2)
        | (refine wpList_put_at rfl 81 (.tmp 4) (.tmp 52) rfl rfl (SR2) 0 rfl (.agg #[.int .i64 PP, .int .i64 SS, .int .i64 RR, .slice aF FF.length FF.length]) rfl #[.int .i64 PP, .int .i64 SS, .int .i64 RR, .slice aF FF.length FF.length] rfl 81 #[.int .i64 0, .int .i64 0, .int .i64 0, .slice none 0 0] #[.int .i64 PP, .int .i64 SS, .int .i64 RR, .slice aF FF.length FF.length] (HM2.out.get (.head _)) (by kernel_rfl) (by kernel_rfl) (by kernel_rfl) (by kernel_rfl) ?_; intro v3 g3 o3; have HM3 := Lib.hid (show Lg wr v3 [(SR2, #[.int .i64 PP, .int .i64 SS, .int .i64 RR, .slice aF FF.length FF.length], 81)] [] from HM2.out.put 0 rfl g3 o3 (fun _ h => nomatch h) (fun _ h => nomatch h) rfl); clear g3 o3))
      have HR3 := Lib.hid ((HM3.out.below.block R1 hRl2).trans HR2.out)
      have HSb := Lib.hid (HM3.out.get (.head _))
      have CS3 := Lib.hid ((HM3.out.below.cell (p := ⟨b, _, none⟩) lB).trans CS.out)
      have CD3 := Lib.hid ((HM3.out.below.cell (p := ⟨b, _, none⟩) lB).trans CD.out)
      have lB3 : b < v3.heap.size := Nat.lt_of_lt_of_le lB HM3.out.below.size
      obtain ⟨ZB, hZB⟩ : ∃ z, (SS == 0) = z := ⟨_, rfl⟩
      rw [hZB] at HZ
      obtain ⟨QB, hQB⟩ : ∃ z, ((dt.size : Int) == SS) = z := ⟨_, rfl⟩
      have hQn : ((dt.size : Int) != SS) = !QB := by rw [← hQB]; rfl
      rw [hQB] at HGB
      clear hQB
      rcases hi : inB 0 255 s with _ | _
      · go_wp2_with fail
        refine wp_region_quiet (C := fun W => Below v3.heap.size v3 W) (by kernel_rfl) (by kernel_rfl) (Below.refl _ _).drew ?_
        dsimp only
        try simp only [Act.put, List.setIfInBounds_toArray, List.set_cons_zero, List.set_cons_succ]
        go_big_quiet_want; go_big_quiet_op; first | go_big_quiet_on | (refine ⟨_, fun _ _ => rfl, ?_⟩; go_big_quiet_on)
        go_big_quiet_want; refine ⟨.slice (some ⟨b, o, none⟩) N5 c5, fun W hW => (quietLoadOne 46 (.tmp 53) rfl R1 15 rfl _ (rowCells HR3.out hW _ _ rfl) _ Tryz.underlying46 rfl), ?_⟩; simp only [Act.put, List.setIfInBounds_toArray, List.set_cons_zero, List.set_cons_succ]; go_big_quiet_on
        go_big_quiet_want; go_big_quiet_op; first | go_big_quiet_on | (refine ⟨_, fun _ _ => rfl, ?_⟩; go_big_quiet_on)
        go_big_quiet_want; go_big_quiet_op; first | go_big_quiet_on | (refine ⟨_, fun _ _ => rfl, ?_⟩; go_big_quiet_on)
        go_big_quiet_want; go_big_quiet_op; first | go_big_quiet_on | (refine ⟨_, fun _ _ => rfl, ?_⟩; go_big_quiet_on)
        go_big_quiet_want; refine ⟨.int .i64 s, fun W hW => (quietLoadOne 2 (.tmp 57) rfl b (o + k * 3) rfl _ ((hW.cell (p := ⟨b, o + k * 3, none⟩) lB3).trans CS3.out) _ Tryz.underlying2 rfl), ?_⟩; simp only [Act.put, List.setIfInBounds_toArray, List.set_cons_zero, List.set_cons_succ]; go_big_quiet_on
        go_big_quiet_want; go_big_quiet_op; refine ⟨_, fun W hW => quietSame hW (hi ▸ l02Is_any s 0 255 W), ?_⟩; go_big_quiet_on
        go_big_quiet_want; go_big_quiet_op; first | go_big_quiet_on | (refine ⟨_, fun _ _ => rfl, ?_⟩; go_big_quiet_on)
        go_big_quiet_want; go_big_quiet_op; first | go_big_quiet_on | (refine ⟨_, fun _ _ => rfl, ?_⟩; go_big_quiet_on)
        go_big_quiet_skip
        go_big_quiet_skip
        go_big_quiet_skip
        go_big_quiet_want; go_big_quiet_op; first | go_big_quiet_on | (refine ⟨_, fun _ _ => rfl, ?_⟩; go_big_quiet_on)
        go_big_quiet_want; go_big_quiet_op; first | go_big_quiet_on | (refine ⟨_, fun _ _ => rfl, ?_⟩; go_big_quiet_on)
        go_big_quiet_skip
        go_big_quiet_skip
        go_big_quiet_skip
        go_big_quiet_skip
        go_big_quiet_skip
        go_big_quiet_skip
        go_big_quiet_skip
        go_big_quiet_skip
        go_big_quiet_skip
        go_big_quiet_skip
        go_big_quiet_want; go_big_quiet_op; first | go_big_quiet_on | (refine ⟨_, fun _ _ => rfl, ?_⟩; go_big_quiet_on)
        refine wpQuiet_nil ?_
        intro X hX
        have hres := HXf.out (by rw [HGB.out, hi]; simp)
        go_wp2_with fail
        go_ret
        exact ⟨by rw [hres]; rfl, HLL.out.below.trans ((hb.trans ((HM3.out.below.trans (hX.mono HM3.out.below.size)).mono hb.size)).mono HLL.out.below.size)⟩
      rcases ZB with _ | _
      · have hDD : DD = true := by cases DD <;> first | rfl | (have := HZ.out; cases this)
        rcases QB with _ | _
        · go_wp2_with fail
          refine wp_region_quiet (C := fun W => Below v3.heap.size v3 W) (by kernel_rfl) (by kernel_rfl) (Below.refl _ _).drew ?_
          dsimp only
          try simp only [Act.put, List.setIfInBounds_toArray, List.set_cons_zero, List.set_cons_succ]
          go_big_quiet_want; go_big_quiet_op; first | go_big_quiet_on | (refine ⟨_, fun _ _ => rfl, ?_⟩; go_big_quiet_on)
          go_big_quiet_want; refine ⟨.slice (some ⟨b, o, none⟩) N5 c5, fun W hW => (quietLoadOne 46 (.tmp 53) rfl R1 15 rfl _ (rowCells HR3.out hW _ _ rfl) _ Tryz.underlying46 rfl), ?_⟩; simp only [Act.put, List.setIfInBounds_toArray, List.set_cons_zero, List.set_cons_succ]; go_big_quiet_on
          go_big_quiet_want; go_big_quiet_op; first | go_big_quiet_on | (refine ⟨_, fun _ _ => rfl, ?_⟩; go_big_quiet_on)
          go_big_quiet_want; go_big_quiet_op; first | go_big_quiet_on | (refine ⟨_, fun _ _ => rfl, ?_⟩; go_big_quiet_on)
          go_big_quiet_want; go_big_quiet_op; first | go_big_quiet_on | (refine ⟨_, fun _ _ => rfl, ?_⟩; go_big_quiet_on)
          go_big_quiet_want; refine ⟨.int .i64 s, fun W hW => (quietLoadOne 2 (.tmp 57) rfl b (o + k * 3) rfl _ ((hW.cell (p := ⟨b, o + k * 3, none⟩) lB3).trans CS3.out) _ Tryz.underlying2 rfl), ?_⟩; simp only [Act.put, List.setIfInBounds_toArray, List.set_cons_zero, List.set_cons_succ]; go_big_quiet_on
          go_big_quiet_want; go_big_quiet_op; refine ⟨_, fun W hW => quietSame hW (hi ▸ l02Is_any s 0 255 W), ?_⟩; go_big_quiet_on
          go_big_quiet_want; go_big_quiet_op; first | go_big_quiet_on | (refine ⟨_, fun _ _ => rfl, ?_⟩; go_big_quiet_on)
          go_big_quiet_want; go_big_quiet_op; first | go_big_quiet_on | (refine ⟨_, fun _ _ => rfl, ?_⟩; go_big_quiet_on)
          go_big_quiet_want; go_big_quiet_op; first | go_big_quiet_on | (refine ⟨_, fun _ _ => rfl, ?_⟩; go_big_quiet_on)
          go_big_quiet_want; refine ⟨.int .i64 SS, fun W hW => (quietLoadOne 2 (.tmp 62) rfl SR2 1 rfl _ (rowCells HSb.out hW _ _ rfl) _ Tryz.underlying2 rfl), ?_⟩; simp only [Act.put, List.setIfInBounds_toArray, List.set_cons_zero, List.set_cons_succ]; go_big_quiet_on
          go_big_quiet_want; go_big_quiet_op; first | go_big_quiet_on | (refine ⟨_, fun _ _ => rfl, ?_⟩; go_big_quiet_on)
          go_big_quiet_want; go_big_quiet_op; first | go_big_quiet_on | (refine ⟨_, fun _ _ => rfl, ?_⟩; go_big_quiet_on)
          go_big_quiet_want; go_big_quiet_op; first | go_big_quiet_on | (refine ⟨_, fun _ _ => rfl, ?_⟩; go_big_quiet_on)
          go_big_quiet_want; go_big_quiet_op; first | go_big_quiet_on | (refine ⟨_, fun _ _ => rfl, ?_⟩; go_big_quiet_on)
          go_big_quiet_want; refine ⟨.slice (some ⟨b, o, none⟩) N5 c5, fun W hW => (quietLoadOne 46 (.tmp 67) rfl R1 15 rfl _ (rowCells HR3.out hW _ _ rfl) _ Tryz.underlying46 rfl), ?_⟩; simp only [Act.put, List.setIfInBounds_toArray, List.set_cons_zero, List.set_cons_succ]; go_big_quiet_on
          go_big_quiet_want; go_big_quiet_op; first | go_big_quiet_on | (refine ⟨_, fun _ _ => rfl, ?_⟩; go_big_quiet_on)
          go_big_quiet_want; go_big_quiet_op; first | go_big_quiet_on | (refine ⟨_, fun _ _ => rfl, ?_⟩; go_big_quiet_on)
          go_big_quiet_want; go_big_quiet_op; first | go_big_quiet_on | (refine ⟨_, fun _ _ => rfl, ?_⟩; go_big_quiet_on)
          go_big_quiet_want; refine ⟨.string dt, fun W hW => (quietLoadOne 9 (.tmp 71) rfl b (o + k * 3 + 2) rfl _ ((hW.cell (p := ⟨b, o + k * 3 + 2, none⟩) lB3).trans CD3.out) _ Tryz.underlying9 rfl), ?_⟩; simp only [Act.put, List.setIfInBounds_toArray, List.set_cons_zero, List.set_cons_succ]; go_big_quiet_on
          go_big_quiet_want; go_big_quiet_op; first | go_big_quiet_on | (refine ⟨_, fun _ _ => rfl, ?_⟩; go_big_quiet_on)
          go_big_quiet_want; go_big_quiet_op; first | go_big_quiet_on | (refine ⟨_, fun _ _ => rfl, ?_⟩; go_big_quiet_on)
          go_big_quiet_want; refine ⟨.int .i64 SS, fun W hW => (quietLoadOne 2 (.tmp 74) rfl SR2 1 rfl _ (rowCells HSb.out hW _ _ rfl) _ Tryz.underlying2 rfl), ?_⟩; simp only [Act.put, List.setIfInBounds_toArray, List.set_cons_zero, List.set_cons_succ]; go_big_quiet_on
          go_big_quiet_want; go_big_quiet_op; first | go_big_quiet_on | (refine ⟨_, fun _ _ => rfl, ?_⟩; go_big_quiet_on)
          go_big_quiet_want; go_big_quiet_op; first | go_big_quiet_on | (refine ⟨_, fun _ _ => rfl, ?_⟩; go_big_quiet_on)
          refine wpQuiet_nil ?_
          intro X hX
          have hres := HXf.out (by rw [HGB.out]; simp)
          go_wp2_with fail
          go_ret
          exact ⟨by rw [hres]; rfl, HLL.out.below.trans ((hb.trans ((HM3.out.below.trans (hX.mono HM3.out.below.size)).mono hb.size)).mono HLL.out.below.size)⟩
        · go_wp2_with fail
          refine wp_region_quiet (C := fun W => Below v3.heap.size v3 W) (by kernel_rfl) (by kernel_rfl) (Below.refl _ _).drew ?_
          dsimp only
          try simp only [Act.put, List.setIfInBounds_toArray, List.set_cons_zero, List.set_cons_succ]
          go_big_quiet_want; go_big_quiet_op; first | go_big_quiet_on | (refine ⟨_, fun _ _ => rfl, ?_⟩; go_big_quiet_on)
          go_big_quiet_want; refine ⟨.slice (some ⟨b, o, none⟩) N5 c5, fun W hW => (quietLoadOne 46 (.tmp 53) rfl R1 15 rfl _ (rowCells HR3.out hW _ _ rfl) _ Tryz.underlying46 rfl), ?_⟩; simp only [Act.put, List.setIfInBounds_toArray, List.set_cons_zero, List.set_cons_succ]; go_big_quiet_on
          go_big_quiet_want; go_big_quiet_op; first | go_big_quiet_on | (refine ⟨_, fun _ _ => rfl, ?_⟩; go_big_quiet_on)
          go_big_quiet_want; go_big_quiet_op; first | go_big_quiet_on | (refine ⟨_, fun _ _ => rfl, ?_⟩; go_big_quiet_on)
          go_big_quiet_want; go_big_quiet_op; first | go_big_quiet_on | (refine ⟨_, fun _ _ => rfl, ?_⟩; go_big_quiet_on)
          go_big_quiet_want; refine ⟨.int .i64 s, fun W hW => (quietLoadOne 2 (.tmp 57) rfl b (o + k * 3) rfl _ ((hW.cell (p := ⟨b, o + k * 3, none⟩) lB3).trans CS3.out) _ Tryz.underlying2 rfl), ?_⟩; simp only [Act.put, List.setIfInBounds_toArray, List.set_cons_zero, List.set_cons_succ]; go_big_quiet_on
          go_big_quiet_want; go_big_quiet_op; refine ⟨_, fun W hW => quietSame hW (hi ▸ l02Is_any s 0 255 W), ?_⟩; go_big_quiet_on
          go_big_quiet_want; go_big_quiet_op; first | go_big_quiet_on | (refine ⟨_, fun _ _ => rfl, ?_⟩; go_big_quiet_on)
          go_big_quiet_want; go_big_quiet_op; first | go_big_quiet_on | (refine ⟨_, fun _ _ => rfl, ?_⟩; go_big_quiet_on)
          go_big_quiet_want; go_big_quiet_op; first | go_big_quiet_on | (refine ⟨_, fun _ _ => rfl, ?_⟩; go_big_quiet_on)
          go_big_quiet_want; refine ⟨.int .i64 SS, fun W hW => (quietLoadOne 2 (.tmp 62) rfl SR2 1 rfl _ (rowCells HSb.out hW _ _ rfl) _ Tryz.underlying2 rfl), ?_⟩; simp only [Act.put, List.setIfInBounds_toArray, List.set_cons_zero, List.set_cons_succ]; go_big_quiet_on
          go_big_quiet_want; go_big_quiet_op; first | go_big_quiet_on | (refine ⟨_, fun _ _ => rfl, ?_⟩; go_big_quiet_on)
          go_big_quiet_want; go_big_quiet_op; first | go_big_quiet_on | (refine ⟨_, fun _ _ => rfl, ?_⟩; go_big_quiet_on)
          go_big_quiet_want; go_big_quiet_op; first | go_big_quiet_on | (refine ⟨_, fun _ _ => rfl, ?_⟩; go_big_quiet_on)
          go_big_quiet_want; go_big_quiet_op; first | go_big_quiet_on | (refine ⟨_, fun _ _ => rfl, ?_⟩; go_big_quiet_on)
          go_big_quiet_want; refine ⟨.slice (some ⟨b, o, none⟩) N5 c5, fun W hW => (quietLoadOne 46 (.tmp 67) rfl R1 15 rfl _ (rowCells HR3.out hW _ _ rfl) _ Tryz.underlying46 rfl), ?_⟩; simp only [Act.put, List.setIfInBounds_toArray, List.set_cons_zero, List.set_cons_succ]; go_big_quiet_on
          go_big_quiet_want; go_big_quiet_op; first | go_big_quiet_on | (refine ⟨_, fun _ _ => rfl, ?_⟩; go_big_quiet_on)
          go_big_quiet_want; go_big_quiet_op; first | go_big_quiet_on | (refine ⟨_, fun _ _ => rfl, ?_⟩; go_big_quiet_on)
          go_big_quiet_want; go_big_quiet_op; first | go_big_quiet_on | (refine ⟨_, fun _ _ => rfl, ?_⟩; go_big_quiet_on)
          go_big_quiet_want; refine ⟨.string dt, fun W hW => (quietLoadOne 9 (.tmp 71) rfl b (o + k * 3 + 2) rfl _ ((hW.cell (p := ⟨b, o + k * 3 + 2, none⟩) lB3).trans CD3.out) _ Tryz.underlying9 rfl), ?_⟩; simp only [Act.put, List.setIfInBounds_toArray, List.set_cons_zero, List.set_cons_succ]; go_big_quiet_on
          go_big_quiet_want; go_big_quiet_op; first | go_big_quiet_on | (refine ⟨_, fun _ _ => rfl, ?_⟩; go_big_quiet_on)
          go_big_quiet_want; go_big_quiet_op; first | go_big_quiet_on | (refine ⟨_, fun _ _ => rfl, ?_⟩; go_big_quiet_on)
          go_big_quiet_want; refine ⟨.int .i64 SS, fun W hW => (quietLoadOne 2 (.tmp 74) rfl SR2 1 rfl _ (rowCells HSb.out hW _ _ rfl) _ Tryz.underlying2 rfl), ?_⟩; simp only [Act.put, List.setIfInBounds_toArray, List.set_cons_zero, List.set_cons_succ]; go_big_quiet_on
          go_big_quiet_want; go_big_quiet_op; first | go_big_quiet_on | (refine ⟨_, fun _ _ => rfl, ?_⟩; go_big_quiet_on)
          go_big_quiet_want; go_big_quiet_op; first | go_big_quiet_on | (refine ⟨_, fun _ _ => rfl, ?_⟩; go_big_quiet_on)
          refine wpQuiet_nil ?_
          intro X hX
          have hal := Lib.hid (HXt.out (by rw [HGB.out, hDD, hi]; rfl))
          go_wp2_with fail
          go_roundw
          case rel => exact ⟨k + 1, by go_num, by omega, hal.out, hb.trans ((HM3.out.below.trans (hX.mono HM3.out.below.size)).mono hb.size)⟩
          case measure => simp [intOf]; omega
      · have hDD : DD = false := by cases DD <;> first | rfl | (have := HZ.out; cases this)
        go_wp2_with fail
        refine wp_region_quiet (C := fun W => Below v3.heap.size v3 W) (by kernel_rfl) (by kernel_rfl) (Below.refl _ _).drew ?_
        dsimp only
        try simp only [Act.put, List.setIfInBounds_toArray, List.set_cons_zero, List.set_cons_succ]
        go_big_quiet_want; go_big_quiet_op; first | go_big_quiet_on | (refine ⟨_, fun _ _ => rfl, ?_⟩; go_big_quiet_on)
        go_big_quiet_want; refine ⟨.slice (some ⟨b, o, none⟩) N5 c5, fun W hW => (quietLoadOne 46 (.tmp 53) rfl R1 15 rfl _ (rowCells HR3.out hW _ _ rfl) _ Tryz.underlying46 rfl), ?_⟩; simp only [Act.put, List.setIfInBounds_toArray, List.set_cons_zero, List.set_cons_succ]; go_big_quiet_on
        go_big_quiet_want; go_big_quiet_op; first | go_big_quiet_on | (refine ⟨_, fun _ _ => rfl, ?_⟩; go_big_quiet_on)
        go_big_quiet_want; go_big_quiet_op; first | go_big_quiet_on | (refine ⟨_, fun _ _ => rfl, ?_⟩; go_big_quiet_on)
        go_big_quiet_want; go_big_quiet_op; first | go_big_quiet_on | (refine ⟨_, fun _ _ => rfl, ?_⟩; go_big_quiet_on)
        go_big_quiet_want; refine ⟨.int .i64 s, fun W hW => (quietLoadOne 2 (.tmp 57) rfl b (o + k * 3) rfl _ ((hW.cell (p := ⟨b, o + k * 3, none⟩) lB3).trans CS3.out) _ Tryz.underlying2 rfl), ?_⟩; simp only [Act.put, List.setIfInBounds_toArray, List.set_cons_zero, List.set_cons_succ]; go_big_quiet_on
        go_big_quiet_want; go_big_quiet_op; refine ⟨_, fun W hW => quietSame hW (hi ▸ l02Is_any s 0 255 W), ?_⟩; go_big_quiet_on
        go_big_quiet_want; go_big_quiet_op; first | go_big_quiet_on | (refine ⟨_, fun _ _ => rfl, ?_⟩; go_big_quiet_on)
        go_big_quiet_want; go_big_quiet_op; first | go_big_quiet_on | (refine ⟨_, fun _ _ => rfl, ?_⟩; go_big_quiet_on)
        go_big_quiet_want; go_big_quiet_op; first | go_big_quiet_on | (refine ⟨_, fun _ _ => rfl, ?_⟩; go_big_quiet_on)
        go_big_quiet_want; refine ⟨.int .i64 SS, fun W hW => (quietLoadOne 2 (.tmp 62) rfl SR2 1 rfl _ (rowCells HSb.out hW _ _ rfl) _ Tryz.underlying2 rfl), ?_⟩; simp only [Act.put, List.setIfInBounds_toArray, List.set_cons_zero, List.set_cons_succ]; go_big_quiet_on
        go_big_quiet_want; go_big_quiet_op; first | go_big_quiet_on | (refine ⟨_, fun _ _ => rfl, ?_⟩; go_big_quiet_on)
        go_big_quiet_want; go_big_quiet_op; first | go_big_quiet_on | (refine ⟨_, fun _ _ => rfl, ?_⟩; go_big_quiet_on)
        go_big_quiet_want; go_big_quiet_op; first | go_big_quiet_on | (refine ⟨_, fun _ _ => rfl, ?_⟩; go_big_quiet_on)
        go_big_quiet_skip
        go_big_quiet_skip
        go_big_quiet_skip
        go_big_quiet_skip
        go_big_quiet_skip
        go_big_quiet_skip
        go_big_quiet_skip
        go_big_quiet_skip
        go_big_quiet_skip
        go_big_quiet_skip
        go_big_quiet_want; go_big_quiet_op; first | go_big_quiet_on | (refine ⟨_, fun _ _ => rfl, ?_⟩; go_big_quiet_on)
        refine wpQuiet_nil ?_
        intro X hX
        have hres := HXf.out (by rw [HGB.out, hDD]; rfl)
        go_wp2_with fail
        go_ret
        exact ⟨by rw [hres]; rfl, HLL.out.below.trans ((hb.trans ((HM3.out.below.trans (hX.mono HM3.out.below.size)).mono hb.size)).mono HLL.out.below.size)⟩
    · have hres : RES = true := by rw [HB2.out]; exact allR_yes (fun i hi => HA.out i (by omega))
      have hcf : decide ((k : Int) < (N5 : Int)) = false := decide_eq_false (by omega)
      go_wp2_with (first
        | (refine wpList_load_one (by kernel_rfl) 46 (.tmp 40) rfl (R1) 15 rfl 48 #[.int .i64 n0, .int .i64 n1, .int .i64 n2, .int .i64 n3, .int .i64 n4, .int .i64 n5, .int .i64 n6, .bool n7, .int .i64 ad, .int .i64 st, .int .i64 lf, .slice a1 N1 c1, .slice a2 N2 c2, .slice a3 N3 c3, .slice a4 N4 c4, .slice a5 N5 c5, .int .i64 sq] (0, 0) HR2.out (.slice a5 N5 c5) rfl _ Tryz.underlying46 rfl (by kernel_rfl) ?_))
      go_ret
      exact ⟨by rw [hres]; rfl, HLL.out.below.trans (hb.mono HLL.out.below.size)⟩
end Go.Proofs.YtioldepgoodipaaGreat
/- Two Names compared, in a walk of a region whose operations yield the same in whatever order. -/
namespace Go.Proofs.YtioldepgoodipaaGreat
open Go.RowKit
set_option linter.unusedVariables false

end Go.Proofs.YtioldepgoodipaaGreat
/- Where somebody is: the model's. Nothing that was there is written. -/
namespace Go.Proofs.YtioldepgoodipaaGreat
open Go.RowKit
set_option linter.unusedVariables false

end Go.Proofs.YtioldepgoodipaaGreat
/- The iterator over those Devices of a list that belong: what comes, one by one. -/
namespace Go.Proofs.YtioldepgoodipaaGreat
open Go.RowKit Go.Shelf
set_option linter.unusedVariables false
attribute [local go_sem] Oper.semAt_some

/-- What a round that goes on keeps: what lay below n₀, and one block. -/
def KpB (n₀ Bb : Nat) (A B : World) : Prop := Below n₀ A B ∧ B.heap[Bb]? = A.heap[Bb]?
theorem filter_take {l : List Dv} {k : Nat} (p : Dv → Bool) (h : k < l.length) : (l.take (k + 1)).filter p = (l.take k).filter p ++ (if p (dvAt l k) = true then [dvAt l k] else []) := by
  have hd := dvAt_some h
  rw [List.take_add_one, hd, List.filter_append]
  cases hp : p (dvAt l k) <;> simp [hp]
set_option maxRecDepth 100000 in
set_option maxHeartbeats 8000000 in
theorem those1_in (n : Nat) (hn : 1 ≤ n) (lp Bs Bb n₀ : Nat) (a : Option Addr) (cap : Nat) (l : List Dv) (p : Dv → Bool) (gb : Nat) (lb : Array Value) (egb : ∀ args w, (callFunc gb args).run Tryz.prog w = .ok (.enter gb args) w)
    (hlen : l.length ≤ maxLen) (J Jx : List Dv → World → Prop) (W : World) (hn0 : n₀ ≤ W.heap.size) (hJ : AbidesFrom W.heap.size J)
    (hY : ∀ pre x W1, J pre W1 → pre.length < l.length → YieldAt Fence.wide (n - 1) Tryz.prog lp #[.agg (dvL x).toArray] W1 fun e W' =>
      (e = .returned (.bool true) ∧ J (pre ++ [x]) W' ∧ KpB n₀ Bb W1 W') ∨ (e = .returned (.bool false) ∧ Jx (pre ++ [x]) W'))
    (HP : ∀ x W', Below n₀ W W' → Calls Tryz.prog gb (#[.agg (dvL x).toArray] ++ lb) W' fun e W'' => e = .returned (.bool (p x)) ∧ Below W'.heap.size W' W'')
    (hBs : W.cell? ⟨Bs, 0, none⟩ = some (.slice a l.length cap)) (hBb : W.cell? ⟨Bb, 0, none⟩ = some (.func (.func gb) #[] lb)) (hRs : ∀ W', Below n₀ W W' → RsIn dvL 10 W' a l) (h0 : J [] W) :
    CallsIn Fence.wide n Tryz.prog 204 #[.func (.yield lp) #[] #[], .pointer (some ⟨Bs, 0, none⟩), .pointer (some ⟨Bb, 0, none⟩)] W fun e W' => (∃ v, e = .returned v) ∧
      (J (l.filter p) W' ∨ ∃ k x, k < l.length ∧ p (dvAt l k) = true ∧ x = dvAt l k ∧ Jx ((l.take k).filter p ++ [x]) W') := by
  unfold maxLen at hlen
  have HY := Lib.hid hY
  have HPP := Lib.hid HP
  have HRs := Lib.hid hRs
  have HJ := Lib.hid hJ
  have HB0 := Lib.hid hBb
  clear hY HP hRs hJ
  obtain ⟨N, hN⟩ : ∃ N, l.length = N := ⟨_, rfl⟩
  have HN := Lib.hid hN
  rw [hN] at hlen hBs
  clear hN
  refine callsIn_of_wp Tryz.func204 rfl trivial ?_ rfl
  simp only [Tryz.ntmps204, List.size_toArray, List.length_cons, List.length_nil, Nat.reduceAdd, Nat.reduceSub, Array.replicate_succ, Array.replicate_zero, List.push_toArray, List.append_toArray, List.nil_append, List.cons_append]
  gi_wp2
  gi_loopw [5, 8] (fun _ i wr => ∃ k : Nat, k ≤ N ∧ i = .int .i64 (k : Int) ∧ J ((l.take k).filter p) wr ∧ Below n₀ W wr ∧ wr.heap[Bb]? = W.heap[Bb]?)
    (fun _ i _ => N - (intOf i).toNat)
  case atStart => exact ⟨0, Nat.zero_le _, rfl, h0, Below.refl _ _, rfl⟩
  case round =>
    obtain ⟨k, hk, rfl, hJs, hnx, hbb⟩ := hrel
    by_cases hkn : k < N
    · have hi1 : (0 : Int) ≤ (k : Int) := by omega
      have hi2 : (k : Int) < (N : Int) := by omega
      obtain ⟨B, o, rfl, hblt, hcs⟩ := (HRs.out wr hnx).at (by have := HN.out; omega)
      have HCs := Lib.hid (hcs k _ (dvAt_some (by have := HN.out; omega)))
      have HX := Lib.hid (filter_take (l := l) p (k := k) (by have := HN.out; omega))
      have HPk := fun W' hW' => Lib.hid (HPP.out (dvAt l k) W' hW')
      have HYk := fun W1 hJ1 => Lib.hid (HY.out ((l.take k).filter p) (dvAt l k) W1 hJ1 (by have := List.length_filter_le p (l.take k); rw [List.length_take] at this; have := HN.out; omega))
      generalize hy : dvAt l k = y at HCs HX HPk HYk
      have HYy := Lib.hid hy
      clear hy HPP HY
      obtain ⟨⟨n0, n1, n2, n3, n4, n5, n6, n7⟩, ad, g⟩ := y
      unfold dvL at HCs HPk HYk
      dsimp only at HCs HPk HYk
      have hBbw := (World.cell?_of_block (a := ⟨Bb, 0, none⟩) hbb).trans HB0.out
      have lBb : Bb < wr.heap.size := World.block_lt_of_cell? wr ⟨Bb, 0, none⟩ hBbw
      have hnw : n₀ ≤ wr.heap.size := Nat.le_trans hn0 hnx.size
      have HBb1 := Lib.hid hBbw
      clear hBbw hBb hcs
      have c0 := HCs.out 0 _ rfl
      have c1 := HCs.out 1 _ rfl
      have c2 := HCs.out 2 _ rfl
      have c3 := HCs.out 3 _ rfl
      have c4 := HCs.out 4 _ rfl
      have c5 := HCs.out 5 _ rfl
      have c6 := HCs.out 6 _ rfl
      have c7 := HCs.out 7 _ rfl
      have c8 := HCs.out 8 _ rfl
      have c9 := HCs.out 9 _ rfl
      simp only [Nat.add_zero] at c0
      have hBbw := HBb1.out
      gi_wp2
      refine ⟨trivial, ?_⟩
      have hw2 : (wr.alloc (.cells #[.int .i64 n0, .int .i64 n1, .int .i64 n2, .int .i64 n3, .int .i64 n4, .int .i64 n5, .int .i64 n6, .bool n7, .int .i64 ad, .int .i64 g] 162)).heap.size = wr.heap.size + 1 := by simp
      refine (callsIn_wide.2 (HPk _ (hnx.trans ((Below.refl _ wr).alloc hnw _))).out).mono ?_
      rintro e v3 ⟨rfl, h3⟩
      have hrow := (h3.block wr.heap.size (by rw [hw2]; omega)).trans (World.alloc_heap_new wr (.cells #[.int .i64 n0, .int .i64 n1, .int .i64 n2, .int .i64 n3, .int .i64 n4, .int .i64 n5, .int .i64 n6, .bool n7, .int .i64 ad, .int .i64 g] 162))
      have hB3 : Below wr.heap.size wr v3 := ((Below.refl _ wr).alloc (Nat.le_refl _) _).trans (h3.mono (by rw [hw2]; omega))
      have HB3 := Lib.hid hB3
      have HJ3 := Lib.hid (HJ.out _ _ _ none hJs (grownOfBelow hB3) (fun r e => by cases e))
      have d0 : v3.cell? ⟨wr.heap.size, 0, none⟩ = some (.int .i64 n0) := cell_of_row v3 wr.heap.size 0 _ _ (0, 0) hrow
      have d1 : v3.cell? ⟨wr.heap.size, 1, none⟩ = some (.int .i64 n1) := cell_of_row v3 wr.heap.size 1 _ _ (0, 0) hrow
      have d2 : v3.cell? ⟨wr.heap.size, 2, none⟩ = some (.int .i64 n2) := cell_of_row v3 wr.heap.size 2 _ _ (0, 0) hrow
      have d3 : v3.cell? ⟨wr.heap.size, 3, none⟩ = some (.int .i64 n3) := cell_of_row v3 wr.heap.size 3 _ _ (0, 0) hrow
      have d4 : v3.cell? ⟨wr.heap.size, 4, none⟩ = some (.int .i64 n4) := cell_of_row v3 wr.heap.size 4 _ _ (0, 0) hrow
      have d5 : v3.cell? ⟨wr.heap.size, 5, none⟩ = some (.int .i64 n5) := cell_of_row v3 wr.heap.size 5 _ _ (0, 0) hrow
      have d6 : v3.cell? ⟨wr.heap.size, 6, none⟩ = some (.int .i64 n6) := cell_of_row v3 wr.heap.size 6 _ _ (0, 0) hrow
      have d7 : v3.cell? ⟨wr.heap.size, 7, none⟩ = some (.bool n7) := cell_of_row v3 wr.heap.size 7 _ _ (0, 0) hrow
      have d8 : v3.cell? ⟨wr.heap.size, 8, none⟩ = some (.int .i64 ad) := cell_of_row v3 wr.heap.size 8 _ _ (0, 0) hrow
      have d9 : v3.cell? ⟨wr.heap.size, 9, none⟩ = some (.int .i64 g) := cell_of_row v3 wr.heap.size 9 _ _ (0, 0) hrow
      clear h3 hw2 hrow hB3 c0 c1 c2 c3 c4 c5 c6 c7 c8 c9 hBbw
      have HJs := Lib.hid hJs
      have HNX := Lib.hid hnx
      have HBB := Lib.hid hbb
      clear hJs hnx hbb
      generalize hpb : p ⟨⟨n0, n1, n2, n3, n4, n5, n6, n7⟩, ad, g⟩ = pb at HX HPk ⊢
      have HPB := Lib.hid hpb
      clear hpb
      rcases pb with _ | _
      · gi_wp2
        refine ⟨fun _ h => (by cases h), ?_⟩
        gi_wp2
        go_roundw
        case rel => exact ⟨k + 1, by omega, by go_num, by rw [HX.out]; simpa using HJ3.out, HNX.out.trans (HB3.out.mono hnw), (HB3.out.block Bb lBb).trans HBB.out⟩
        case measure => simp [intOf]; omega
      · obtain ⟨fn, tmps, assign, body, hy, hR⟩ := (HYk _ HJ3.out).out
        have HR := Lib.hid hR
        clear hR
        gi_wp2
        refine HR.out.mono ?_
        rintro e v4 (⟨rfl, hJ4, hk4⟩ | ⟨rfl, hJx4⟩)
        · gi_wp2
          go_roundw
          case rel => exact ⟨k + 1, by omega, by go_num, by rw [HX.out]; simpa using hJ4, HNX.out.trans ((HB3.out.mono hnw).trans hk4.1), hk4.2.trans ((HB3.out.block Bb lBb).trans HBB.out)⟩
          case measure => simp [intOf]; omega
        · gi_wp2
          refine bodyPost_ret (results_none rfl _ _ _) rfl ?_
          exact ⟨⟨_, rfl⟩, .inr ⟨k, _, by have := HN.out; omega, by rw [HYy.out]; exact HPB.out, HYy.out.symm, hJx4⟩⟩
    · have hJN := hJs
      rw [List.take_of_length_le (by have := HN.out; omega)] at hJN
      have HJN := Lib.hid hJN
      clear hJN hJs
      have hkf : decide ((k : Int) < (N : Int)) = false := decide_eq_false (by omega)
      have hkf2 : decide (k < N) = false := decide_eq_false (by omega)
      gi_wp2
      go_end0
      exact ⟨⟨_, rfl⟩, .inl HJN.out⟩
/-- The iterator's contract: all of those that belong, in their order; or some of them, the last one said 'no more'. -/
theorem those_stops (n : Nat) (hn : 1 ≤ n) (Bs Bb n₀ : Nat) (a : Option Addr) (cap : Nat) (l : List Dv) (p : Dv → Bool) (gb : Nat) (lb : Array Value) (egb : ∀ args w, (callFunc gb args).run Tryz.prog w = .ok (.enter gb args) w)
    (hlen : l.length ≤ maxLen) (w : World) (hn0 : n₀ ≤ w.heap.size) (lBs : Bs < w.heap.size) (lBb : Bb < w.heap.size)
    (HP : ∀ x W', Below n₀ w W' → Calls Tryz.prog gb (#[.agg (dvL x).toArray] ++ lb) W' fun e W'' => e = .returned (.bool (p x)) ∧ Below W'.heap.size W' W'')
    (hBs : w.cell? ⟨Bs, 0, none⟩ = some (.slice a l.length cap)) (hBb : w.cell? ⟨Bb, 0, none⟩ = some (.func (.func gb) #[] lb)) (hRs : ∀ W', Below n₀ w W' → RsIn dvL 10 W' a l) :
    SeqStopsK Fence.wide n Tryz.prog 204 #[.pointer (some ⟨Bs, 0, none⟩), .pointer (some ⟨Bb, 0, none⟩)] (fun x : Dv => #[.agg (dvL x).toArray]) (KpB n₀ Bb) (fun ys => ys = l.filter p)
      (fun pre => ∃ k, k < l.length ∧ p (dvAt l k) = true ∧ pre = (l.take k).filter p ++ [dvAt l k]) l.length w := fun lp J Jx W hW hJ _ hY h0 => by
  have hW0 : Below n₀ w W := hW.mono hn0
  refine (those1_in n hn lp Bs Bb n₀ a cap l p gb lb egb hlen J Jx W (Nat.le_trans hn0 hW.size) hJ hY (fun x W' h => HP x W' (hW0.trans h)) ((hW.cell (p := ⟨Bs, 0, none⟩) lBs).trans hBs) ((hW.cell (p := ⟨Bb, 0, none⟩) lBb).trans hBb) (fun W' h => hRs W' (hW0.trans h)) h0).mono ?_
  rintro e W' ⟨hv, hj | ⟨k, x, hk, hp, rfl, hj⟩⟩
  · exact ⟨hv, .inl ⟨_, rfl, hj⟩⟩
  · exact ⟨hv, .inr ⟨_, ⟨k, hk, hp, rfl⟩, hj⟩⟩
theorem kpB_t {n₀ Bb : Nat} {A B C : World} (h : KpB n₀ Bb A B) (k : KpB n₀ Bb B C) : KpB n₀ Bb A C := ⟨h.1.trans k.1, k.2.trans h.2⟩
theorem kpB_b {n₀ Bb : Nat} {w : World} (hn : n₀ ≤ w.heap.size) (hb : Bb < w.heap.size) (W : World) (l : Nat) (o o' : Obj) (hl : w.heap.size ≤ l) (h : W.heap[l]? = some o) (h1 : o.isCells = false) (h2 : o.isWalk = false) : KpB n₀ Bb W (W.putObj l o') :=
  ⟨belowK_b hn W l o o' hl h h1 h2, World.putObj_heap_other (by omega)⟩
set_option maxRecDepth 100000 in
theorem those_any (a : Option Addr) (len cap gb : Nat) (lb : Array Value) (w : World) :
    Calls Tryz.prog 150 #[.slice a len cap, .func (.func gb) #[] lb] w fun e w' => e = .returned (.func (.func 204) #[] #[.pointer (some ⟨w.heap.size, 0, none⟩), .pointer (some ⟨w.heap.size + 1, 0, none⟩)]) ∧ w' = (w.alloc (.cells #[.slice a len cap] 45)).alloc (.cells #[.func (.func gb) #[] lb] 217) := by
  go_enter Tryz.func150, Tryz.ntmps150
  go_wp2_with fail
  go_ret
  exact ⟨rfl, rfl⟩
end Go.Proofs.YtioldepgoodipaaGreat
/- Where somebody is: the program's. Nothing that was there is written. -/
namespace Go.Proofs.YtioldepgoodipaaGreat
open Go.RowKit Go.Shelf
set_option linter.unusedVariables false
attribute [local go_sem] Oper.semAt_some

def headAd : List Dv → Int
  | x :: _ => x.ad
  | [] => 0
end Go.Proofs.YtioldepgoodipaaGreat
/- A tick of a list of Devices: the program's. Nothing that was there is written. -/
namespace Go.Proofs.YtioldepgoodipaaGreat
open Go.RowKit Go.Shelf
set_option linter.unusedVariables false
attribute [local go_sem] Oper.semAt_some

set_option maxRecDepth 100000 in
set_option maxHeartbeats 8000000 in
theorem young_any (x : Dv) (W : World) :
    Calls Tryz.prog 149 #[.agg (dvL x).toArray] W fun e W' => e = .returned (.bool (decide (x.g < 600))) ∧ Below W.heap.size W W' := by
  obtain ⟨⟨m0, m1, m2, m3, m4, m5, m6, m7⟩, ad, g⟩ := x
  unfold dvL
  dsimp only at *
  obtain ⟨D, hD⟩ : ∃ D, decide (g < 600) = D := ⟨_, rfl⟩
  rw [hD]
  go_enter Tryz.func149, Tryz.ntmps149
  go_wp2_with (first
    | (refine wpList_box_h rfl 162 (.tmp 0) rfl #[.int .i64 m0, .int .i64 m1, .int .i64 m2, .int .i64 m3, .int .i64 m4, .int .i64 m5, .int .i64 m6, .bool m7, .int .i64 ad, .int .i64 g] rfl ?_; intro w1 R1 e1 g1 b1; have HL1 := Lib.hid (show Lg W w1 [(R1, #[.int .i64 m0, .int .i64 m1, .int .i64 m2, .int .i64 m3, .int .i64 m4, .int .i64 m5, .int .i64 m6, .bool m7, .int .i64 ad, .int .i64 g], 162)] [] from (Lg.first W).box e1 g1 b1); clear g1 b1 e1)
    | (refine wpList_load_one rfl 2 (.tmp 3) rfl (R1) 9 rfl 162 #[.int .i64 m0, .int .i64 m1, .int .i64 m2, .int .i64 m3, .int .i64 m4, .int .i64 m5, .int .i64 m6, .bool m7, .int .i64 ad, .int .i64 g] (0, 0) (HL1.out.get (.head _)) (.int .i64 g) rfl _ Tryz.underlying2 rfl (by kernel_rfl) ?_))
  go_ret
  exact ⟨rfl, HL1.out.below⟩
/-- The cells of one item that lies in a block of its own. -/
theorem cells_one_item (w : World) (cs : List Value) (T : TypeId) : ∀ j u, cs[j]? = some u → (w.alloc (.cells cs.toArray T)).cell? ((⟨w.heap.size, 0, none⟩ : Addr).add j) = some u := by
  intro j u hj
  have h := World.alloc_heap_new w (.cells cs.toArray T)
  have e : (⟨w.heap.size, 0, none⟩ : Addr).add j = ⟨w.heap.size, j, none⟩ := by unfold Addr.add; split <;> simp_all
  rw [e, cell_of_row _ _ _ _ _ (0, 0) h]
  simpa using hj
theorem dvs_age {l : List Dv} (h : dvsB l = true) : ∀ x ∈ l, 0 ≤ x.g ∧ x.g ≤ 600 := by
  intro x hx
  obtain ⟨i, hi, rfl⟩ := List.getElem_of_mem hx
  have e : l[i] = dvAt l i := by
    have := dvAt_some hi
    rw [List.getElem?_eq_getElem hi] at this
    exact Option.some.inj this
  rw [e]
  exact dvAge_of ((dvsB_of h).2 i hi)
/-- A Device an Age older, as the machine adds. -/
def olderW (x : Dv) : Dv := ⟨x.n, x.ad, IntKind.i64.wrap (x.g + 1)⟩
theorem olderW_all {l : List Dv} (h : ∀ x ∈ l, 0 ≤ x.g ∧ x.g ≤ 600) : (l.filter fun x => decide (x.g < 600)).map olderW = tickD l := by
  unfold tickD
  refine List.map_congr_left fun x hx => ?_
  have := h x ((List.mem_filter.1 hx).1)
  unfold olderW
  rw [IntWalk.i64_in _ (by omega)]
theorem dv_flat_snoc (l : List Dv) (x : Dv) : (l ++ [x]).flatMap dvL = l.flatMap dvL ++ dvL x := by simp
set_option maxRecDepth 100000 in
set_option maxHeartbeats 8000000 in
theorem implDeviceTick_any (a : Option Addr) (cap : Nat) (l : List Dv) (w : World) (h : RsIn dvL 10 w a l) (hlen : l.length ≤ maxLen) (hcap : l.length ≤ cap) :
    Calls Tryz.prog 73 #[.slice a l.length cap] w (DvOut w (tickDV l)) := by
  have HDR := fun W (hW : RsIn dvL 10 W a l) => Lib.hid (implDevicesRight_any a cap l W hW hlen hcap)
  obtain ⟨i0, hi, hz0, hz1, hz2⟩ := info_parts DeviceTo.info
  unfold DvOut
  refine (callsIn_wide (n := 3)).1 ?_
  refine callsIn_of_wp_marks Tryz.func73 rfl trivial ?_ rfl
  simp only [Tryz.ntmps73, List.size_toArray, List.length_cons, List.length_nil, Nat.reduceAdd, Nat.reduceSub, Array.replicate_succ, Array.replicate_zero, List.push_toArray, List.append_toArray, List.nil_append, List.cons_append]
  gi_wp2
  refine ⟨trivial, ?_⟩
  refine (callsIn_wide.2 (HDR _ h).out).mono ?_
  rintro e w3 ⟨rfl, h3⟩
  have HB3 := Lib.hid h3
  have hs3 : w.heap.size ≤ w3.heap.size := h3.size
  clear h3 HDR
  rcases hR : dvsB l with _ | _
  · have HV := Lib.hid (show tickDV l = [] by unfold tickDV; rw [hR]; rfl)
    clear hR
    gi_wp2
    rw [HV.out]
    exact ⟨_, results_tmp rfl _ _ _, none, 0, rfl, RsNew.nil _, HB3.out⟩
  · have HV := Lib.hid (show tickDV l = tickD l by unfold tickDV; rw [hR, if_pos rfl])
    have H8 := Lib.hid (dvsB_of hR)
    have HOk := Lib.hid (dvs_age hR)
    clear hR
    gi_wp2
    refine ⟨trivial, ?_⟩
    refine (callsIn_wide.2 (those_any a l.length cap 149 #[] (w3.alloc (.cells #[.slice none 0 0] 45)))).mono ?_
    rintro e w4 ⟨rfl, hw4⟩
    obtain ⟨B, hB⟩ : ∃ B, w3.heap.size = B := ⟨_, rfl⟩
    have hBs : (w3.alloc (.cells #[.slice none 0 0] 45)).heap.size = B + 1 := by simp [hB]
    have HB4 : Below B w3 w4 := by rw [hw4, ← hB]; exact (((Below.refl _ w3).alloc (Nat.le_refl _) _).alloc (by simp) _).alloc (by simp; omega) _
    have hs4 : w4.heap.size = B + 3 := by rw [hw4]; simp [hB]
    have bK : Boxed w4 B 45 (.slice none 0 0) := by rw [hw4, ← hB]; exact ((Boxed.new w3 _ _).alloc _).alloc _
    have bS : w4.cell? ⟨B + 1, 0, none⟩ = some (.slice a l.length cap) := by rw [hw4, ← hBs]; exact ((Boxed.new _ _ _).alloc _).cell
    have bF : Boxed w4 (B + 1 + 1) 217 (.func (.func 149) #[] #[]) := by
      rw [hw4]
      have := Boxed.new ((w3.alloc (.cells #[.slice none 0 0] 45)).alloc (.cells #[.slice a l.length cap] 45)) 217 (.func (.func 149) #[] #[])
      rw [World.size_alloc, hBs] at this
      exact this
    have HW4 := Lib.hid (HB3.out.trans (HB4.mono (by omega)))
    have HBS := Lib.hid bS
    have HBF := Lib.hid bF
    have HBK := Lib.hid bK
    rw [hBs, hB]
    have hs3' : w.heap.size ≤ B := by omega
    clear hw4 HB4 bS bF bK hBs hB hs3
    gi_wp2
    refine wpIn_rangeFunc_ownH rfl (by omega) (gf := 204) (lb := #[.pointer (some ⟨B + 1, 0, none⟩), .pointer (some ⟨B + 1 + 1, 0, none⟩)]) rfl trivial (enters_of Tryz.func204 (by kernel_rfl) rfl)
      (those_stops 2 (by omega) (B + 1) (B + 1 + 1) B a cap l (fun x => decide (x.g < 600)) 149 #[] (enters_of Tryz.func149 (by kernel_rfl) rfl) hlen w4 (by omega) (by omega) (by omega)
        (fun x W' hW => young_any x W') HBS.out HBF.out.cell (fun W' hW => h.kept (HW4.out.trans (hW.mono hs3'))))
      kpB_t (kpB_b (by omega) (by omega)) (Below.refl _ _) (fun _ => rfl)
      (fun (pre : List Dv) W => (∃ v, Boxed W B 45 v ∧ W.ownsRow B 162 10 v (pre.map olderW).length ((pre.map olderW).flatMap dvL) ∧ (pre = pre)) ∧ (Boxed W (B + 1 + 1) 217 (.func (.func 149) #[] #[]) ∧ Below B w4 W))
      (fun _ _ _ => False)
      (OwnFrom.and (Own.from (holdsRow_own B B 45 162 10 (fun (pre : List Dv) => (pre.map olderW).length) (fun (pre : List Dv) => (pre.map olderW).flatMap dvL) (fun (pre : List Dv) _ => pre = pre)) _) (OwnFrom.and (Own.from (boxed_own _ _ _) _) (ownFrom_below (by omega) (by omega))))
      (fun _ _ _ _ _ hs _ _ => hs)
      ⟨⟨_, HBK.out, World.ownsRow_nil _ _ _ _, rfl⟩, HBF.out, Below.refl _ _⟩
      (fun x a' W => ∃ Bx v, B < Bx ∧ W.heap[Bx]? = some (.cells (dvL x).toArray 162 (0, 0)) ∧ (Boxed W B 45 v ∧ v.ownBlock ≠ some Bx ∧ B + 3 ≤ Bx) ∧ a' = { tmps := #[.slice a l.length cap, undef, .slice none 0 0, .func (.func 149) #[] #[], .pointer (some ⟨B, 0, none⟩), .pointer (some ⟨Bx, 0, none⟩), .slice a l.length cap, .bool true, .bool false, .slice a l.length cap, .func (.func 149) #[] #[], .func (.func 204) #[] #[.pointer (some ⟨B + 1, 0, none⟩), .pointer (some ⟨B + 1 + 1, 0, none⟩)], .agg (dvL x).toArray, undef, undef, undef, undef, undef, undef, undef, undef, undef], defers := [] })
      (fun x a' _ X Y row hs hg hr => by obtain ⟨Bx, v, e1, e2, ⟨e4, e5, e6⟩, e3⟩ := hs; exact ⟨Bx, v, e1, (grownBy_keeps_cells hg (fun r e => (hr r e).2) e2 rfl).trans e2, ⟨(grownBy_keeps_cells hg (fun r e => (hr r e).2) e4 rfl).trans e4, e5, e6⟩, e3⟩)
      ?assign ?body ?done ?stop
    case assign =>
      rintro lp pre x W K ⟨⟨v, bV, hrow, hp⟩, bF, hB⟩ hK
      obtain ⟨⟨m0, m1, m2, m3, m4, m5, m6, m7⟩, ad, g⟩ := x
      have hKK := Lib.hid hK
      have hWs : B + 3 ≤ W.heap.size := by have := hB.size; omega
      have hrr := Lib.hid (hrow.alloc (.cells #[.int .i64 m0, .int .i64 m1, .int .i64 m2, .int .i64 m3, .int .i64 m4, .int .i64 m5, .int .i64 m6, .bool m7, .int .i64 ad, .int .i64 g] 162))
      have hne : v.ownBlock ≠ some W.heap.size := fun e => Nat.lt_irrefl _ (World.ownsRow.lt hrow _ e).2
      clear hK hrow
      unfold dvL
      gi_wp2
      exact hKK.out _ _ ((KeepsOthers.alloc _ _).from _) ⟨(Below.refl _ W).alloc (by omega) _, Below.heap_alloc _ _ _ (by omega)⟩ ⟨⟨v, bV.alloc _, hrr.out, hp⟩, bF.alloc _, hB.alloc (by omega) _⟩ ⟨W.heap.size, v, by omega, World.alloc_heap_new W _, ⟨bV.alloc _, hne, hWs⟩, rfl⟩
    case body =>
      rintro lp pre x a' W hl _ ⟨⟨v, bV, hrow, -⟩, bF, hB⟩ ⟨Bx, v2, hBx, bX, ⟨bV2, hne, hB3⟩, rfl⟩ hlt
      have hvv : v = v2 := by
        have := (show W.heap[B]? = _ from bV).symm.trans bV2
        simpa using this
      subst hvv
      have hlt8 := H8.out.1
      have lX : Bx < W.heap.size := (Array.getElem?_eq_some_iff.1 bX).1
      obtain ⟨⟨m0, m1, m2, m3, m4, m5, m6, m7⟩, ad, g⟩ := x
      have hsn := dv_flat_snoc (pre.map olderW) (olderW ⟨⟨m0, m1, m2, m3, m4, m5, m6, m7⟩, ad, g⟩)
      have hmap : (pre ++ [(⟨⟨m0, m1, m2, m3, m4, m5, m6, m7⟩, ad, g⟩ : Dv)]).map olderW = pre.map olderW ++ [olderW ⟨⟨m0, m1, m2, m3, m4, m5, m6, m7⟩, ad, g⟩] := by simp
      unfold dvL at bX
      have hsn' : (pre.map olderW ++ [olderW ⟨⟨m0, m1, m2, m3, m4, m5, m6, m7⟩, ad, g⟩]).flatMap dvL = (pre.map olderW).flatMap dvL ++ [.int .i64 m0, .int .i64 m1, .int .i64 m2, .int .i64 m3, .int .i64 m4, .int .i64 m5, .int .i64 m6, .bool m7, .int .i64 ad, .int .i64 (IntKind.i64.wrap (g + 1))] := hsn
      obtain ⟨A, hA⟩ : ∃ A, IntKind.i64.wrap (g + 1) = A := ⟨_, rfl⟩
      rw [hA] at hsn'
      have HS := Lib.hid (And.intro hmap hsn')
      clear hsn hsn' hmap
      have hplen : (pre.map olderW).length = pre.length := List.length_map _
      generalize pre.map olderW = P at *
      rw [hplen] at hrow
      have c9 : W.cell? ⟨Bx, 9, none⟩ = some (.int .i64 g) := cell_of_row W Bx 9 _ _ (0, 0) bX
      have f9 := frozen_of_row W Bx 9 _ _ bX
      obtain ⟨W1, hW1⟩ : ∃ W1, W.setCell ⟨Bx, 9, none⟩ (.int .i64 A) = W1 := ⟨_, rfl⟩
      have hX1 : W1.heap[Bx]? = some (.cells #[.int .i64 m0, .int .i64 m1, .int .i64 m2, .int .i64 m3, .int .i64 m4, .int .i64 m5, .int .i64 m6, .bool m7, .int .i64 ad, .int .i64 A] 162 (0, 0)) := by
        rw [← hW1]
        exact heap_setCell_same W Bx 9 _ _ (.int .i64 A) bX
      have bV1 : Boxed W1 B 45 v := by rw [← hW1]; exact (Below.heap_setCell W ⟨Bx, 9, none⟩ _ B (by simp; omega)).trans bV
      have bF1 : Boxed W1 (B + 1 + 1) 217 (.func (.func 149) #[] #[]) := by rw [← hW1]; exact (Below.heap_setCell W ⟨Bx, 9, none⟩ _ (B + 1 + 1) (by simp; omega)).trans bF
      have hrow1 : W1.ownsRow B 162 10 v pre.length (P.flatMap dvL) := by rw [← hW1]; exact owns_set hrow hne _
      have hB1 : Below B W W1 := by rw [← hW1]; exact (Below.refl B W).setCell (p := ⟨Bx, 9, none⟩) (by show B ≤ Bx; omega) _
      have hK1 : KeepsOthers W W1 := by rw [← hW1]; exact KeepsOthers.setCell _ _ _
      have e0 : W1.cell? ⟨Bx, 0, none⟩ = some (.int .i64 m0) := cell_of_row W1 Bx 0 _ _ (0, 0) hX1
      have e1 : W1.cell? ⟨Bx, 1, none⟩ = some (.int .i64 m1) := cell_of_row W1 Bx 1 _ _ (0, 0) hX1
      have e2 : W1.cell? ⟨Bx, 2, none⟩ = some (.int .i64 m2) := cell_of_row W1 Bx 2 _ _ (0, 0) hX1
      have e3 : W1.cell? ⟨Bx, 3, none⟩ = some (.int .i64 m3) := cell_of_row W1 Bx 3 _ _ (0, 0) hX1
      have e4 : W1.cell? ⟨Bx, 4, none⟩ = some (.int .i64 m4) := cell_of_row W1 Bx 4 _ _ (0, 0) hX1
      have e5 : W1.cell? ⟨Bx, 5, none⟩ = some (.int .i64 m5) := cell_of_row W1 Bx 5 _ _ (0, 0) hX1
      have e6 : W1.cell? ⟨Bx, 6, none⟩ = some (.int .i64 m6) := cell_of_row W1 Bx 6 _ _ (0, 0) hX1
      have e7 : W1.cell? ⟨Bx, 7, none⟩ = some (.bool m7) := cell_of_row W1 Bx 7 _ _ (0, 0) hX1
      have e8 : W1.cell? ⟨Bx, 8, none⟩ = some (.int .i64 ad) := cell_of_row W1 Bx 8 _ _ (0, 0) hX1
      have e9 : W1.cell? ⟨Bx, 9, none⟩ = some (.int .i64 A) := cell_of_row W1 Bx 9 _ _ (0, 0) hX1
      have hc := bV1.cell
      have hs1 : B ≤ W1.heap.size := by have := hX1; have := (Array.getElem?_eq_some_iff.1 this).1; omega
      have HQ := Lib.hid (And.intro bV (And.intro bF (And.intro hrow (And.intro bX (And.intro bV2 hX1)))))
      clear bV bF hrow bX bV2 hX1
      gi_wp2_with (gi_at_builtin; refine wpListIn_append_own _ rfl _ _ 45 rfl B 162 i0 _ 10 80 Tryz.underlying45 hi hz0 hz1 hz2 (by kernel_rfl) (by decide) v pre.length (P.flatMap dvL) rfl (hrow1.alloc _) ⟨W1.heap.size, 0, none⟩ 1 1 [.int .i64 m0, .int .i64 m1, .int .i64 m2, .int .i64 m3, .int .i64 m4, .int .i64 m5, .int .i64 m6, .bool m7, .int .i64 ad, .int .i64 A] rfl rfl (cells_one_item _ _ _) (dvL_one ⟨⟨m0, m1, m2, m3, m4, m5, m6, m7⟩, ad, A⟩) (by unfold maxLen; omega) (by omega) (by have := hs1; simp; omega) ?_; intro v' w1 hown' hgrow _; obtain ⟨g', cap', rfl⟩ := ownsRow_succ hown'; obtain ⟨hv1, hv2, hr2, hk2, hb2⟩ := bV1.appended (by decide) hrow1 hs1 (Nat.le_refl _) hown' hgrow; have hc1 := hv1.cell; have hf1 := hv1.frozen)
      have bV := HQ.out.1
      have bF := HQ.out.2.1
      have hbF : (w1.setCell ⟨B, 0, none⟩ (.slice (some ⟨g', 0, none⟩) (pre.length + 1) cap')).heap[B + 1 + 1]? = W.heap[B + 1 + 1]? := by
        refine (Below.heap_setCell w1 ⟨B, 0, none⟩ _ (B + 1 + 1) (by show B + 1 + 1 ≠ B; omega)).trans ?_
        refine ((bF1.alloc _).kept hgrow (bF1.not_row (by decide) hrow1)).trans bF.symm
      have bF2 : Boxed (w1.setCell ⟨B, 0, none⟩ (.slice (some ⟨g', 0, none⟩) (pre.length + 1) cap')) (B + 1 + 1) 217 (.func (.func 149) #[] #[]) := hbF.trans bF
      exact ⟨(hK1.trans hk2).from _, ⟨hB1.trans hb2, hbF⟩, ⟨_, hv2, by rw [HS.out.1, HS.out.2, List.length_append]; exact hr2⟩, bF2, hB.trans (hB1.trans hb2)⟩
    case done =>
      rintro D ys W hD rfl ⟨⟨v, bV, hrow, -⟩, -, hB⟩ hK
      have hc := bV.cell
      gi_wp2
      refine ⟨by simp, .inl ⟨_, _, rfl, run_takeDeferred hK, ?_⟩⟩
      have hr2 := ownsRow_putObj hrow (.deferred none) hK rfl
      obtain ⟨a', cap', rfl, _, hn⟩ := RsNew.of_owns dvL_len hr2
      rw [olderW_all HOk.out] at hn ⊢
      rw [HV.out]
      exact ⟨_, results_tmp rfl _ _ _, a', cap', rfl, hn.wide hs3' (Nat.le_refl _), HW4.out.trans ((hB.mono hs3').trans (belowK_b (w := w4) (by omega) W D _ _ (by omega) hK rfl rfl))⟩
    case stop =>
      rintro D c pre W _ _ hh _
      exact hh.elim
end Go.Proofs.YtioldepgoodipaaGreat
/- The Node beside a code. Nothing that was there is written. -/
namespace Go.Proofs.YtioldepgoodipaaGreat
open Go.RowKit
set_option linter.unusedVariables false

/-- The Node beside a code. -/
def ndZ : Nd := ⟨⟨⟨0, 0, 0, 0, 0, 0, 0, false⟩, 0, 0, 0, []⟩, [], [], [], [], 0⟩
theorem ndZ_new {lo : Nat} {W : World} (h : lo ≤ W.heap.size) : NdNew lo W.heap.size W none none none none none ndZ :=
  Rows5.new ⟨.inl rfl, .inl rfl, .inl rfl, .inl rfl, .inl rfl⟩ h
set_option maxRecDepth 100000 in
set_option maxHeartbeats 32000000 in
theorem l10Ill_any (c : Int) (w : World) :
    Calls Tryz.prog 30 #[.int .i64 c] w fun e w' => e = .returned (.agg #[.int .i64 0, .int .i64 0, .int .i64 0, .int .i64 0, .int .i64 0, .int .i64 0, .int .i64 0, .bool false, .int .i64 0, .int .i64 0, .int .i64 0, .slice none 0 0, .slice none 0 0, .slice none 0 0, .slice none 0 0, .slice none 0 0, .int .i64 0, .int .i64 c]) ∧ Below w.heap.size w w' := by
  go_enter Tryz.func30, Tryz.ntmps30
  go_wp2_with (first
    | (refine wpList_alloc_h rfl 50 rfl (.agg #[.int .i64 0, .int .i64 0, .int .i64 0, .int .i64 0, .int .i64 0, .int .i64 0, .int .i64 0, .bool false, .int .i64 0, .int .i64 0, .int .i64 0, .slice none 0 0, .slice none 0 0, .slice none 0 0, .slice none 0 0, .slice none 0 0, .int .i64 0, .int .i64 0]) (by kernel_rfl) #[.int .i64 0, .int .i64 0, .int .i64 0, .int .i64 0, .int .i64 0, .int .i64 0, .int .i64 0, .bool false, .int .i64 0, .int .i64 0, .int .i64 0, .slice none 0 0, .slice none 0 0, .slice none 0 0, .slice none 0 0, .slice none 0 0, .int .i64 0, .int .i64 0] rfl ?_; intro w1 R1 e1 g1 b1; have HL1 := Lib.hid (show Lg w w1 [(R1, #[.int .i64 0, .int .i64 0, .int .i64 0, .int .i64 0, .int .i64 0, .int .i64 0, .int .i64 0, .bool false, .int .i64 0, .int .i64 0, .int .i64 0, .slice none 0 0, .slice none 0 0, .slice none 0 0, .slice none 0 0, .slice none 0 0, .int .i64 0, .int .i64 0], 50)] [] from (Lg.first w).box e1 g1 b1); clear g1 b1 e1)
    | (refine wpList_put_at rfl 50 (.tmp 2) (.tmp 4) rfl rfl (R1) 0 rfl (.agg #[.int .i64 0, .int .i64 0, .int .i64 0, .int .i64 0, .int .i64 0, .int .i64 0, .int .i64 0, .bool false, .int .i64 0, .int .i64 0, .int .i64 0, .slice none 0 0, .slice none 0 0, .slice none 0 0, .slice none 0 0, .slice none 0 0, .int .i64 0, .int .i64 c]) rfl #[.int .i64 0, .int .i64 0, .int .i64 0, .int .i64 0, .int .i64 0, .int .i64 0, .int .i64 0, .bool false, .int .i64 0, .int .i64 0, .int .i64 0, .slice none 0 0, .slice none 0 0, .slice none 0 0, .slice none 0 0, .slice none 0 0, .int .i64 0, .int .i64 c] rfl 50 #[.int .i64 0, .int .i64 0, .int .i64 0, .int .i64 0, .int .i64 0, .int .i64 0, .int .i64 0, .bool false, .int .i64 0, .int .i64 0, .int .i64 0, .slice none 0 0, .slice none 0 0, .slice none 0 0, .slice none 0 0, .slice none 0 0, .int .i64 0, .int .i64 0] #[.int .i64 0, .int .i64 0, .int .i64 0, .int .i64 0, .int .i64 0, .int .i64 0, .int .i64 0, .bool false, .int .i64 0, .int .i64 0, .int .i64 0, .slice none 0 0, .slice none 0 0, .slice none 0 0, .slice none 0 0, .slice none 0 0, .int .i64 0, .int .i64 c] (HL1.out.get (.head _)) (by kernel_rfl) (by kernel_rfl) (by kernel_rfl) (by kernel_rfl) ?_; intro w2 g2 o2; have HL2 := Lib.hid (show Lg w w2 [(R1, #[.int .i64 0, .int .i64 0, .int .i64 0, .int .i64 0, .int .i64 0, .int .i64 0, .int .i64 0, .bool false, .int .i64 0, .int .i64 0, .int .i64 0, .slice none 0 0, .slice none 0 0, .slice none 0 0, .slice none 0 0, .slice none 0 0, .int .i64 0, .int .i64 c], 50)] [] from HL1.out.put 0 rfl g2 o2 (fun _ h => nomatch h) (fun _ h => nomatch h) rfl); clear g2 o2))
  exact bodyPost_ret (results_cell_row (p := 2) (ty := 50) (by kernel_rfl) _ _ (R1) 50 _ (0, 0) _ rfl (HL2.out.get (.head _)) Tryz.underlying50 rfl (by kernel_rfl)) rfl ⟨rfl, HL2.out.below⟩
end Go.Proofs.YtioldepgoodipaaGreat
