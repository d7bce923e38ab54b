/- Whether Values are right for a group: the program's and the model's. Nothing that was there is written. -/
import Derived.Test.YtanijfmfjabmfaaDefOf
import Derived.Test.YtanijfmfjabmfaaVls
import Derived.Test.YtanijfmfjabmfaaBitsVal
namespace Go.Proofs.Ytanijfmfjabmfaa
open Go.RowKit
set_option linter.unusedVariables false

/-- The i-th Value is right for the i-th Field. -/
def vrAt (F : List Fd) (l : List Vl) (i : Nat) : Bool := valB (fdAt F i).a (fdAt F i).w (fdAt F i).g (vlAt l i).k (vlAt l i).v
def vrF (there : Bool) (F : List Fd) (l : List Vl) : Bool := there && (decide (l.length = F.length) && (List.range F.length).all (vrAt F l))
/-- The Values are right for that group. -/
def vrB (p : Int) (l : List Vl) : Bool := vrF (decide (ixD p < 6)) (defD p).fs l
theorem vrF_len {h : Bool} {F : List Fd} {l : List Vl} (hn : ¬ l.length = F.length) : vrF h F l = false := by simp [vrF, hn]
theorem vrF_no {h : Bool} {F : List Fd} {l : List Vl} {i : Nat} (hi : i < F.length) (hv : vrAt F l i = false) : vrF h F l = false := by
  unfold vrF
  rw [Bool.and_eq_false_iff, Bool.and_eq_false_iff]
  right; right
  rw [List.all_eq_false]
  exact ⟨i, by simpa using hi, by rw [hv]; simp⟩
theorem vrF_yes {F : List Fd} {l : List Vl} (hn : l.length = F.length) (hv : ∀ i, i < F.length → vrAt F l i = true) : vrF true F l = true := by
  unfold vrF
  rw [Bool.true_and, decide_eq_true hn, Bool.true_and, List.all_eq_true]
  exact fun i hi => hv i (by simpa using hi)
theorem vrF_of {h : Bool} {F : List Fd} {l : List Vl} (hv : vrF h F l = true) : h = true ∧ l.length = F.length ∧ ∀ i, i < F.length → vrAt F l i = true := by
  unfold vrF at hv
  rw [Bool.and_eq_true, Bool.and_eq_true, List.all_eq_true] at hv
  exact ⟨hv.1, of_decide_eq_true hv.2.1, fun i hi => hv.2.2 i (by simpa using hi)⟩
theorem vr_next {F : List Fd} {l : List Vl} {k : Nat} (h : ∀ i, i < k → vrAt F l i = true) (hk : vrAt F l k = true) : ∀ i, i < k + 1 → vrAt F l i = true := by
  intro i hi
  rcases Nat.lt_or_ge i k with h' | h'
  · exact h i h'
  · obtain rfl : i = k := by omega
    exact hk
theorem defD_s (p : Int) : (ixD p < 6 → (defD p).s = 8 ∨ (defD p).s = 14) ∧ (¬ ixD p < 6 → (defD p).s = 0 ∧ (defD p).fs = []) := by
  have h := ixD_le p
  unfold defD
  generalize ixD p = i at *
  rcases i with _ | _ | _ | _ | _ | _ | _ | i
  all_goals first | exact ⟨fun _ => .inl rfl, fun h => absurd (by decide) h⟩ | exact ⟨fun _ => .inr rfl, fun h => absurd (by decide) h⟩ | exact ⟨fun h => absurd h (by decide), fun _ => ⟨rfl, rfl⟩⟩ | omega
/-- Each Field of a group is right, and in its bytes. -/
theorem defD_in (p : Int) {i : Nat} (hi : i < (defD p).fs.length) : ∃ a w : Nat, (fdAt (defD p).fs i).a = a ∧ (fdAt (defD p).fs i).w = w ∧ a ≤ 1800 ∧ 1 ≤ w ∧ w ≤ 32 ∧ ((a + w : Nat) : Int) ≤ 8 * (defD p).s := by
  have h := ixD_le p
  have h5 := defD_len p
  unfold defD at *
  generalize ixD p = j at *
  rcases j with _ | _ | _ | _ | _ | _ | _ | j
  all_goals first | omega | skip
  all_goals rcases i with _ | _ | _ | _ | _ | i
  all_goals first | exact ⟨_, _, rfl, rfl, by decide, by decide, by decide, by decide⟩ | exact absurd hi (by decide) | omega
theorem hasB_lit {s : ByteArray} {A B : Nat} (h1 : A ≤ 1800) (h2 : 1 ≤ B) (h3 : B ≤ 32) (h4 : A + B ≤ 8 * s.size) : hasB s (A : Int) (B : Int) = true := by
  unfold hasB fieldB inB
  simp only [Bool.and_eq_true, decide_eq_true_eq]
  omega
theorem rowAt0 {W0 W : World} {g : Nat} {row : List Value} {t : TypeId} (hg : W0.heap[g]? = some (.cells row.toArray t (0, 0))) (hW : Below W0.heap.size W0 W) : ∀ (j : Nat) v, row[j]? = some v → W.cell? ⟨g, 0 + j, none⟩ = some v :=
  fun j v hv => rowCells hg hW (0 + j) v (by rw [Nat.zero_add]; simpa using hv)
set_option maxRecDepth 100000 in
set_option maxHeartbeats 8000000 in
theorem implValuesRight_any (p : Int) (a2 : Option Addr) (c2 : Nat) (l : List Vl) (w : World) (hl : RsIn vlL 2 w a2 l) (hlen : l.length ≤ maxLen) :
    Calls Try.prog 51 #[.int .i64 p, .slice a2 l.length c2] w fun e w' => e = .returned (.bool (vrB p l)) ∧ Below w.heap.size w w' := by
  unfold maxLen at hlen
  have HRow := fun B G W h => Lib.hid (rowOf_d B G p W h)
  have HN := Lib.hid (fun B G W lo hi h1 h2 h3 => @flds_new B G W lo hi h1 h2 h3 p)
  have hF5 := defD_len p
  unfold vrB
  generalize defD p = d at *
  obtain ⟨P, S, R, F⟩ := d
  dsimp only at *
  obtain ⟨V, hV⟩ : ∃ V, vrF (decide (ixD p < 6)) F l = V := ⟨_, rfl⟩
  have hVn := fun hn => hV.symm.trans (@vrF_len (decide (ixD p < 6)) F l hn)
  have hVi := fun i hi hv => hV.symm.trans (@vrF_no (decide (ixD p < 6)) F l i hi hv)
  have hVy : decide (ixD p < 6) = true → l.length = F.length → (∀ i, i < F.length → vrAt F l i = true) → V = true := fun h1 h2 h3 => hV.symm.trans (by rw [h1]; exact vrF_yes h2 h3)
  have hV0 : decide (ixD p < 6) = false → V = false := fun h1 => hV.symm.trans (by rw [h1]; rfl)
  rw [hV]
  clear hV
  have HLv := Lib.hid hl
  clear hl
  obtain ⟨N, hN⟩ : ∃ N, F.length = N := ⟨_, rfl⟩
  obtain ⟨M, hM⟩ : ∃ M, l.length = M := ⟨_, rfl⟩
  have HNl := Lib.hid hN
  have HMl := Lib.hid hM
  rw [hN] at HRow hF5 hVn hVi hVy
  rw [hM] at hlen hVn hVy ⊢
  generalize decide (ixD p < 6) = there at *
  have HV0 := Lib.hid hV0
  have HVn := Lib.hid hVn
  have HVi := Lib.hid hVi
  have HVy := Lib.hid hVy
  clear hN hM hV0 hVn hVi hVy
  go_enter Try.func51, Try.ntmps51
  go_wp2_with fail
  refine (defs_any _).mono ?_
  rintro e w1 ⟨G, rfl, hT, h⟩
  obtain ⟨L1, e1⟩ : ∃ x, w.heap.size = x := ⟨_, rfl⟩
  obtain ⟨H1, f1⟩ : ∃ x, w1.heap.size = x := ⟨_, rfl⟩
  have qH1_L1 : L1 ≤ H1 := (by rw [← e1, ← f1]; exact h.size)
  have HL1 := Lib.hid (show Lg w w1 [] [(L1, H1, fun W => RsNew fdL 3 77 L1 H1 W (aD L1 p) F)] from (Lg.first w).made e1 f1 h (by rw [← e1, ← f1]; exact (HN.out _ _ _ _ _ hT (Nat.le_refl _) hT.hi).solid))
  have HT1 := Lib.hid (show TabAt L1 G w1 from by rw [← e1]; exact hT)
  clear h hT e1 f1
  go_wp2_with fail
  refine ((HRow _ _ _ HT1.out).out).mono ?_
  rintro e w2 ⟨rfl, h⟩
  have HL2 := Lib.hid (show Lg w w2 [] [(L1, H1, fun W => RsNew fdL 3 77 L1 H1 W (aD L1 p) F)] from HL1.out.kept h)
  clear h
  rcases there with _ | _
  · have hv := HV0.out rfl
    go_wp2_with (first
      | (refine wpList_alloc_h rfl 70 rfl (.agg #[.int .i64 0, .int .i64 0, .int .i64 0, .slice none 0 0]) (by kernel_rfl) #[.int .i64 0, .int .i64 0, .int .i64 0, .slice none 0 0] rfl ?_; intro w3 R3 e3 g3 b3; have qR3_H1 : H1 ≤ R3 := Nat.le_trans (HL2.out.hi (.head _)).2 (Nat.le_of_eq e3); have HL3 := Lib.hid (show Lg w w3 [(R3, #[.int .i64 0, .int .i64 0, .int .i64 0, .slice none 0 0], 70)] [(L1, H1, fun W => RsNew fdL 3 77 L1 H1 W (aD L1 p) F)] from HL2.out.box e3 g3 b3); clear g3 b3 e3)
      | (refine wpList_put_at rfl 70 (.tmp 5) (.tmp 13) rfl rfl (R3) 0 rfl (.agg #[.int .i64 P, .int .i64 S, .int .i64 R, .slice (aD L1 p) N N]) rfl #[.int .i64 P, .int .i64 S, .int .i64 R, .slice (aD L1 p) N N] rfl 70 #[.int .i64 0, .int .i64 0, .int .i64 0, .slice none 0 0] #[.int .i64 P, .int .i64 S, .int .i64 R, .slice (aD L1 p) N N] (HL3.out.get (.head _)) (by kernel_rfl) (by kernel_rfl) (by kernel_rfl) (by kernel_rfl) ?_; intro w4 g4 o4; have HL4 := Lib.hid (show Lg w w4 [(R3, #[.int .i64 P, .int .i64 S, .int .i64 R, .slice (aD L1 p) N N], 70)] [(L1, H1, fun W => RsNew fdL 3 77 L1 H1 W (aD L1 p) F)] from HL3.out.put 0 rfl g4 o4 (fun _ h => nomatch h) (List.forall_mem_cons.2 ⟨.inl qR3_H1, (fun _ h => nomatch h)⟩) rfl); clear g4 o4))
    go_ret
    exact ⟨by first | rfl | (rw [hv]; rfl), HL4.out.below⟩
  by_cases hMN : M = N
  · obtain rfl : N = M := hMN.symm
    have e1 : ((N : Int) != (N : Int)) = false := by simp
    go_wp2_with (first
      | (refine wpList_alloc_h rfl 70 rfl (.agg #[.int .i64 0, .int .i64 0, .int .i64 0, .slice none 0 0]) (by kernel_rfl) #[.int .i64 0, .int .i64 0, .int .i64 0, .slice none 0 0] rfl ?_; intro w3 R3 e3 g3 b3; have qR3_H1 : H1 ≤ R3 := Nat.le_trans (HL2.out.hi (.head _)).2 (Nat.le_of_eq e3); have HL3 := Lib.hid (show Lg w w3 [(R3, #[.int .i64 0, .int .i64 0, .int .i64 0, .slice none 0 0], 70)] [(L1, H1, fun W => RsNew fdL 3 77 L1 H1 W (aD L1 p) F)] from HL2.out.box e3 g3 b3); clear g3 b3 e3)
      | (refine wpList_put_at rfl 70 (.tmp 5) (.tmp 13) rfl rfl (R3) 0 rfl (.agg #[.int .i64 P, .int .i64 S, .int .i64 R, .slice (aD L1 p) N N]) rfl #[.int .i64 P, .int .i64 S, .int .i64 R, .slice (aD L1 p) N N] rfl 70 #[.int .i64 0, .int .i64 0, .int .i64 0, .slice none 0 0] #[.int .i64 P, .int .i64 S, .int .i64 R, .slice (aD L1 p) N N] (HL3.out.get (.head _)) (by kernel_rfl) (by kernel_rfl) (by kernel_rfl) (by kernel_rfl) ?_; intro w4 g4 o4; have HL4 := Lib.hid (show Lg w w4 [(R3, #[.int .i64 P, .int .i64 S, .int .i64 R, .slice (aD L1 p) N N], 70)] [(L1, H1, fun W => RsNew fdL 3 77 L1 H1 W (aD L1 p) F)] from HL3.out.put 0 rfl g4 o4 (fun _ h => nomatch h) (List.forall_mem_cons.2 ⟨.inl qR3_H1, (fun _ h => nomatch h)⟩) rfl); clear g4 o4)
      | (refine wpList_load_one rfl 68 (.tmp 20) rfl (R3) 3 rfl 70 #[.int .i64 P, .int .i64 S, .int .i64 R, .slice (aD L1 p) N N] (0, 0) (HL4.out.get (.head _)) (.slice (aD L1 p) N N) rfl _ Try.underlying68 rfl (by kernel_rfl) ?_)
      | (refine wpList_load_one rfl 68 (.tmp 25) rfl (R3) 3 rfl 70 #[.int .i64 P, .int .i64 S, .int .i64 R, .slice (aD L1 p) N N] (0, 0) (HL4.out.get (.head _)) (.slice (aD L1 p) N N) rfl _ Try.underlying68 rfl (by kernel_rfl) ?_))
    have HFl := Lib.hid (HL4.out.at (.head _)).ins
    have HBp := Lib.hid HL4.out.below
    have HLq := Lib.hid (HLv.out.kept HBp.out)
    clear HL1 HL2 HL3 HL4 HT1 HLv
    go_loopw [28] (fun i wr => ∃ k : Nat, i = .int .i64 (k : Int) ∧ k ≤ N ∧ (∀ i, i < k → vrAt F l i = true) ∧ Below w4.heap.size w4 wr) (fun i _ => N - (intOf i).toNat)
    case atStart => exact ⟨0, rfl, by omega, fun i hi => absurd hi (by omega), Below.refl _ _⟩
    case round =>
      obtain ⟨k, rfl, hk, hall, hb⟩ := hrel
      have HA := Lib.hid hall
      clear hall
      by_cases hkn : k < N
      · have hi1 : (0 : Int) ≤ (k : Int) := by omega
        have hi2 : (k : Int) < (N : Int) := by omega
        have hkF : k < F.length := by have := HNl.out; omega
        have hkl : k < l.length := by have := HMl.out; omega
        obtain ⟨b, o, ha, hlt, hc⟩ := HFl.out.at (by omega)
        obtain ⟨b2, o2, rfl, hlt2, hc2⟩ := HLq.out.at (by omega)
        rw [ha]
        have lv : b2 < wr.heap.size := Nat.lt_of_lt_of_le hlt2 hb.size
        have HCf := Lib.hid (fun j v hv => (hb.cell (p := ⟨b, _, none⟩) hlt).trans (hc k _ (fdAt_some hkF) j v hv))
        have HCv := Lib.hid (fun j v hv => (hb.cell (p := ⟨b2, _, none⟩) hlt2).trans (hc2 k _ (vlAt_some hkl) j v hv))
        have HNx := Lib.hid (@vr_next F l k HA.out)
        have HNo := Lib.hid (HVi.out k hkn)
        have HVR := fun W => Lib.hid (implValueRight_any (fdAt F k).a (fdAt F k).w (fdAt F k).g (vlAt l k).k (vlAt l k).v W)
        unfold vrAt at HNx HNo
        clear hc hc2
        generalize fdAt F k = x at *
        generalize vlAt l k = y at *
        obtain ⟨fa, fw, fg⟩ := x
        obtain ⟨vk, vn⟩ := y
        unfold fdL at HCf
        unfold vlL at HCv
        unfold fdV vlV at HVR
        dsimp only at *
        generalize valB fa fw fg vk vn = Y at *
        go_wp2_with (first
          | (refine wpList_load_cells rfl 77 (.tmp 31) rfl b (o + k * 3) rfl [.int .i64 fa, .int .i64 fw, .bool fg] HCf.out _ Try.underlying77 rfl (by kernel_rfl) ?_)
          | (refine wpList_alloc_h rfl 77 rfl (.agg #[.int .i64 0, .int .i64 0, .bool false]) (by kernel_rfl) #[.int .i64 0, .int .i64 0, .bool false] rfl ?_; intro w1 qR1 e1 g1 b1; have HL1 := Lib.hid (show Lg wr w1 [(qR1, #[.int .i64 0, .int .i64 0, .bool false], 77)] [] from (Lg.first wr).box e1 g1 b1); clear g1 b1 e1)
          | (refine wpList_put_at rfl 77 (.tmp 8) (.tmp 32) rfl rfl (qR1) 0 rfl (.agg #[.int .i64 fa, .int .i64 fw, .bool fg]) rfl #[.int .i64 fa, .int .i64 fw, .bool fg] rfl 77 #[.int .i64 0, .int .i64 0, .bool false] #[.int .i64 fa, .int .i64 fw, .bool fg] (HL1.out.get (.head _)) (by kernel_rfl) (by kernel_rfl) (by kernel_rfl) (by kernel_rfl) ?_; intro w2 g2 o2; have HL2 := Lib.hid (show Lg wr w2 [(qR1, #[.int .i64 fa, .int .i64 fw, .bool fg], 77)] [] from HL1.out.put 0 rfl g2 o2 (fun _ h => nomatch h) (fun _ h => nomatch h) rfl); clear g2 o2))
        refine wp_region_quiet (C := fun W => Below w2.heap.size w2 W) (by kernel_rfl) (by kernel_rfl) (Below.refl _ _).drew ?_
        dsimp only
        go_big_quiet_want; refine ⟨.agg #[.int .i64 fa, .int .i64 fw, .bool fg], fun W hW => (quietLoadCells 77 (.tmp 8) rfl qR1 0 rfl [.int .i64 fa, .int .i64 fw, .bool fg] (rowAt0 (HL2.out.get (.head _)) hW) _ Try.underlying77 rfl (by kernel_rfl)), ?_⟩; simp only [Act.put, List.setIfInBounds_toArray, List.set_cons_zero, List.set_cons_succ]; go_big_quiet_on
        go_big_quiet_want; go_big_quiet_op; first | go_big_quiet_on | (refine ⟨_, fun _ _ => rfl, ?_⟩; go_big_quiet_on)
        go_big_quiet_want; go_big_quiet_op; first | go_big_quiet_on | (refine ⟨_, fun _ _ => rfl, ?_⟩; go_big_quiet_on)
        go_big_quiet_want; go_big_quiet_op; first | go_big_quiet_on | (refine ⟨_, fun _ _ => rfl, ?_⟩; go_big_quiet_on)
        go_big_quiet_want; refine ⟨.agg #[.int .i64 vk, .int .i64 vn], fun W hW => (quietLoadCells 142 (.tmp 36) rfl b2 (o2 + k * 2) rfl [.int .i64 vk, .int .i64 vn] (grownCells (Nat.lt_of_lt_of_le lv HL2.out.below.size) (fun j v hv => (HL2.out.below.cell (p := ⟨b2, _, none⟩) lv).trans (HCv.out j v hv)) hW) _ Try.underlying142 rfl (by kernel_rfl)), ?_⟩; simp only [Act.put, List.setIfInBounds_toArray, List.set_cons_zero, List.set_cons_succ]; go_big_quiet_on
        go_big_quiet_want; go_big_quiet_op; refine ⟨_, fun W hW => quietCall hW (HVR W).out, ?_⟩; go_big_quiet_on
        go_big_quiet_want; go_big_quiet_op; first | go_big_quiet_on | (refine ⟨_, fun _ _ => rfl, ?_⟩; go_big_quiet_on)
        refine wpQuiet_nil ?_
        intro X hX
        have hbX := hb.trans ((HL2.out.below.trans (hX.mono HL2.out.below.size)).mono hb.size)
        rcases Y with _ | _
        · have hv := HNo.out rfl
          go_wp2_with fail
          go_ret
          exact ⟨by first | rfl | (rw [hv]; rfl), HBp.out.trans (hbX.mono HBp.out.size)⟩
        · have HN2 := Lib.hid (HNx.out rfl)
          go_wp2_with fail
          go_roundw
          case rel => exact ⟨k + 1, by go_num, by omega, HN2.out, hbX⟩
          case measure => simp [intOf]; omega
      · have hv := HVy.out (by trivial) (by trivial) (fun i hi => HA.out i (by omega))
        go_wp2_with fail
        go_ret
        exact ⟨by first | rfl | (rw [hv]; rfl), HBp.out.trans (hb.mono HBp.out.size)⟩
  · have hv := HVn.out hMN
    have e1 : ((M : Int) != (N : Int)) = true := by simp; omega
    go_wp2_with (first
      | (refine wpList_alloc_h rfl 70 rfl (.agg #[.int .i64 0, .int .i64 0, .int .i64 0, .slice none 0 0]) (by kernel_rfl) #[.int .i64 0, .int .i64 0, .int .i64 0, .slice none 0 0] rfl ?_; intro w3 R3 e3 g3 b3; have qR3_H1 : H1 ≤ R3 := Nat.le_trans (HL2.out.hi (.head _)).2 (Nat.le_of_eq e3); have HL3 := Lib.hid (show Lg w w3 [(R3, #[.int .i64 0, .int .i64 0, .int .i64 0, .slice none 0 0], 70)] [(L1, H1, fun W => RsNew fdL 3 77 L1 H1 W (aD L1 p) F)] from HL2.out.box e3 g3 b3); clear g3 b3 e3)
      | (refine wpList_put_at rfl 70 (.tmp 5) (.tmp 13) rfl rfl (R3) 0 rfl (.agg #[.int .i64 P, .int .i64 S, .int .i64 R, .slice (aD L1 p) N N]) rfl #[.int .i64 P, .int .i64 S, .int .i64 R, .slice (aD L1 p) N N] rfl 70 #[.int .i64 0, .int .i64 0, .int .i64 0, .slice none 0 0] #[.int .i64 P, .int .i64 S, .int .i64 R, .slice (aD L1 p) N N] (HL3.out.get (.head _)) (by kernel_rfl) (by kernel_rfl) (by kernel_rfl) (by kernel_rfl) ?_; intro w4 g4 o4; have HL4 := Lib.hid (show Lg w w4 [(R3, #[.int .i64 P, .int .i64 S, .int .i64 R, .slice (aD L1 p) N N], 70)] [(L1, H1, fun W => RsNew fdL 3 77 L1 H1 W (aD L1 p) F)] from HL3.out.put 0 rfl g4 o4 (fun _ h => nomatch h) (List.forall_mem_cons.2 ⟨.inl qR3_H1, (fun _ h => nomatch h)⟩) rfl); clear g4 o4)
      | (refine wpList_load_one rfl 68 (.tmp 20) rfl (R3) 3 rfl 70 #[.int .i64 P, .int .i64 S, .int .i64 R, .slice (aD L1 p) N N] (0, 0) (HL4.out.get (.head _)) (.slice (aD L1 p) N N) rfl _ Try.underlying68 rfl (by kernel_rfl) ?_))
    go_ret
    exact ⟨by first | rfl | (rw [hv]; rfl), HL4.out.below⟩
set_option maxRecDepth 100000 in
set_option maxHeartbeats 8000000 in
theorem specValuesRight_any (p : Int) (a2 : Option Addr) (c2 : Nat) (l : List Vl) (w : World) (hl : RsIn vlL 2 w a2 l) (hlen : l.length ≤ maxLen) :
    Calls Try.prog 52 #[.int .i64 p, .slice a2 l.length c2] w fun e w' => e = .returned (.bool (vrB p l)) ∧ Below w.heap.size w w' := by
  unfold maxLen at hlen
  have HD := fun W => Lib.hid (specDefOf_any p W)
  unfold DefOut at HD
  have hF5 := defD_len p
  have hS := defD_s p
  unfold vrB
  generalize defD p = d at *
  obtain ⟨P, S, R, F⟩ := d
  dsimp only at *
  obtain ⟨V, hV⟩ : ∃ V, vrF (decide (ixD p < 6)) F l = V := ⟨_, rfl⟩
  have hVn := fun hn => hV.symm.trans (@vrF_len (decide (ixD p < 6)) F l hn)
  have hVi := fun i hi hv => hV.symm.trans (@vrF_no (decide (ixD p < 6)) F l i hi hv)
  have hVy : decide (ixD p < 6) = true → l.length = F.length → (∀ i, i < F.length → vrAt F l i = true) → V = true := fun h1 h2 h3 => hV.symm.trans (by rw [h1]; exact vrF_yes h2 h3)
  have hV0 : decide (ixD p < 6) = false → V = false := fun h1 => hV.symm.trans (by rw [h1]; rfl)
  have hSb : (S == 0) = !(decide (ixD p < 6)) := by
    by_cases h : ixD p < 6
    · rw [decide_eq_true h]
      rcases hS.1 h with rfl | rfl <;> rfl
    · rw [decide_eq_false h, (hS.2 h).1]; rfl
  rw [hV]
  clear hV hS
  have HLv := Lib.hid hl
  clear hl
  obtain ⟨N, hN⟩ : ∃ N, F.length = N := ⟨_, rfl⟩
  obtain ⟨M, hM⟩ : ∃ M, l.length = M := ⟨_, rfl⟩
  have HNl := Lib.hid hN
  have HMl := Lib.hid hM
  rw [hN] at HD hF5 hVn hVi hVy
  rw [hM] at hlen hVn hVy ⊢
  generalize decide (ixD p < 6) = there at *
  have HV0 := Lib.hid hV0
  have HVn := Lib.hid hVn
  have HVi := Lib.hid hVi
  have HVy := Lib.hid hVy
  clear hN hM hV0 hVn hVi hVy
  go_enter Try.func52, Try.ntmps52
  go_wp2_with fail
  refine ((HD _).out).mono ?_
  rintro e w1 ⟨a, rfl, hn, h⟩
  obtain ⟨L1, e1⟩ : ∃ x, w.heap.size = x := ⟨_, rfl⟩
  obtain ⟨H1, f1⟩ : ∃ x, w1.heap.size = x := ⟨_, rfl⟩
  have qH1_L1 : L1 ≤ H1 := (by rw [← e1, ← f1]; exact h.size)
  have HL1 := Lib.hid (show Lg w w1 [] [(L1, H1, fun W => RsNew fdL 3 77 L1 H1 W a F)] from (Lg.first w).made e1 f1 h (by rw [← e1, ← f1]; exact hn.solid))
  clear h hn e1 f1
  rcases there with _ | _
  · have hv := HV0.out rfl
    simp only [Bool.not_false] at hSb
    go_wp2_with (first
      | (refine wpList_alloc_h rfl 70 rfl (.agg #[.int .i64 0, .int .i64 0, .int .i64 0, .slice none 0 0]) (by kernel_rfl) #[.int .i64 0, .int .i64 0, .int .i64 0, .slice none 0 0] rfl ?_; intro w2 R2 e2 g2 b2; have qR2_H1 : H1 ≤ R2 := Nat.le_trans (HL1.out.hi (.head _)).2 (Nat.le_of_eq e2); have HL2 := Lib.hid (show Lg w w2 [(R2, #[.int .i64 0, .int .i64 0, .int .i64 0, .slice none 0 0], 70)] [(L1, H1, fun W => RsNew fdL 3 77 L1 H1 W a F)] from HL1.out.box e2 g2 b2); clear g2 b2 e2)
      | (refine wpList_put_at rfl 70 (.tmp 5) (.tmp 8) rfl rfl (R2) 0 rfl (.agg #[.int .i64 P, .int .i64 S, .int .i64 R, .slice a N N]) rfl #[.int .i64 P, .int .i64 S, .int .i64 R, .slice a N N] rfl 70 #[.int .i64 0, .int .i64 0, .int .i64 0, .slice none 0 0] #[.int .i64 P, .int .i64 S, .int .i64 R, .slice a N N] (HL2.out.get (.head _)) (by kernel_rfl) (by kernel_rfl) (by kernel_rfl) (by kernel_rfl) ?_; intro w3 g3 o3; have HL3 := Lib.hid (show Lg w w3 [(R2, #[.int .i64 P, .int .i64 S, .int .i64 R, .slice a N N], 70)] [(L1, H1, fun W => RsNew fdL 3 77 L1 H1 W a F)] from HL2.out.put 0 rfl g3 o3 (fun _ h => nomatch h) (List.forall_mem_cons.2 ⟨.inl qR2_H1, (fun _ h => nomatch h)⟩) rfl); clear g3 o3)
      | (refine wpList_load_one rfl 2 (.tmp 9) rfl (R2) 1 rfl 70 #[.int .i64 P, .int .i64 S, .int .i64 R, .slice a N N] (0, 0) (HL3.out.get (.head _)) (.int .i64 S) rfl _ Try.underlying2 rfl (by kernel_rfl) ?_))
    go_ret
    exact ⟨by first | rfl | (rw [hv]; rfl), HL3.out.below⟩
  simp only [Bool.not_true] at hSb
  by_cases hMN : M = N
  · obtain rfl : N = M := hMN.symm
    have e1 : ((N : Int) != (N : Int)) = false := by simp
    go_wp2_with (first
      | (refine wpList_alloc_h rfl 70 rfl (.agg #[.int .i64 0, .int .i64 0, .int .i64 0, .slice none 0 0]) (by kernel_rfl) #[.int .i64 0, .int .i64 0, .int .i64 0, .slice none 0 0] rfl ?_; intro w2 R2 e2 g2 b2; have qR2_H1 : H1 ≤ R2 := Nat.le_trans (HL1.out.hi (.head _)).2 (Nat.le_of_eq e2); have HL2 := Lib.hid (show Lg w w2 [(R2, #[.int .i64 0, .int .i64 0, .int .i64 0, .slice none 0 0], 70)] [(L1, H1, fun W => RsNew fdL 3 77 L1 H1 W a F)] from HL1.out.box e2 g2 b2); clear g2 b2 e2)
      | (refine wpList_put_at rfl 70 (.tmp 5) (.tmp 8) rfl rfl (R2) 0 rfl (.agg #[.int .i64 P, .int .i64 S, .int .i64 R, .slice a N N]) rfl #[.int .i64 P, .int .i64 S, .int .i64 R, .slice a N N] rfl 70 #[.int .i64 0, .int .i64 0, .int .i64 0, .slice none 0 0] #[.int .i64 P, .int .i64 S, .int .i64 R, .slice a N N] (HL2.out.get (.head _)) (by kernel_rfl) (by kernel_rfl) (by kernel_rfl) (by kernel_rfl) ?_; intro w3 g3 o3; have HL3 := Lib.hid (show Lg w w3 [(R2, #[.int .i64 P, .int .i64 S, .int .i64 R, .slice a N N], 70)] [(L1, H1, fun W => RsNew fdL 3 77 L1 H1 W a F)] from HL2.out.put 0 rfl g3 o3 (fun _ h => nomatch h) (List.forall_mem_cons.2 ⟨.inl qR2_H1, (fun _ h => nomatch h)⟩) rfl); clear g3 o3)
      | (refine wpList_load_one rfl 2 (.tmp 9) rfl (R2) 1 rfl 70 #[.int .i64 P, .int .i64 S, .int .i64 R, .slice a N N] (0, 0) (HL3.out.get (.head _)) (.int .i64 S) rfl _ Try.underlying2 rfl (by kernel_rfl) ?_)
      | (refine wpList_load_one rfl 68 (.tmp 15) rfl (R2) 3 rfl 70 #[.int .i64 P, .int .i64 S, .int .i64 R, .slice a N N] (0, 0) (HL3.out.get (.head _)) (.slice a N N) rfl _ Try.underlying68 rfl (by kernel_rfl) ?_))
    have HFl := Lib.hid (HL3.out.at (.head _)).ins
    have HR5 := Lib.hid (HL3.out.get (.head _))
    have HBp := Lib.hid HL3.out.below
    have HLq := Lib.hid (HLv.out.kept HBp.out)
    clear HL1 HL2 HL3 HLv
    have HR50 := HR5
    clear HR5
    go_loopw [6] (fun i wr => ∃ k : Nat, i = .int .i64 (k : Int) ∧ k ≤ N ∧ (∀ i, i < k → vrAt F l i = true) ∧ Below w3.heap.size w3 wr) (fun i _ => N - (intOf i).toNat)
    case atStart => exact ⟨0, rfl, by omega, fun i hi => absurd hi (by omega), Below.refl _ _⟩
    case round =>
      obtain ⟨k, rfl, hk, hall, hb⟩ := hrel
      have HA := Lib.hid hall
      clear hall
      by_cases hkn : k < N
      · have hi1 : (0 : Int) ≤ (k : Int) := by omega
        have hi2 : (k : Int) < (N : Int) := by omega
        have hkF : k < F.length := by have := HNl.out; omega
        have hkl : k < l.length := by have := HMl.out; omega
        obtain ⟨b, o, rfl, hlt, hc⟩ := HFl.out.at (by omega)
        obtain ⟨b2, o2, rfl, hlt2, hc2⟩ := HLq.out.at (by omega)
        have lv : b2 < wr.heap.size := Nat.lt_of_lt_of_le hlt2 hb.size
        have lf : b < wr.heap.size := Nat.lt_of_lt_of_le hlt hb.size
        have HR5 := Lib.hid ((hb.block _ (Array.getElem?_eq_some_iff.1 HR50.out).1).trans HR50.out)
        have HCf := Lib.hid (fun j v hv => (hb.cell (p := ⟨b, _, none⟩) hlt).trans (hc k _ (fdAt_some hkF) j v hv))
        have HCv := Lib.hid (fun j v hv => (hb.cell (p := ⟨b2, _, none⟩) hlt2).trans (hc2 k _ (vlAt_some hkl) j v hv))
        have HNx := Lib.hid (@vr_next F l k HA.out)
        have HNo := Lib.hid (HVi.out k hkn)
        have HVR := fun W => Lib.hid (specValueRight_any (fdAt F k).a (fdAt F k).w (fdAt F k).g (vlAt l k).k (vlAt l k).v W)
        unfold vrAt at HNx HNo
        clear hc hc2
        generalize fdAt F k = x at *
        generalize vlAt l k = y at *
        obtain ⟨fa, fw, fg⟩ := x
        obtain ⟨vk, vn⟩ := y
        unfold fdL at HCf
        unfold vlL at HCv
        unfold fdV vlV at HVR
        dsimp only at *
        generalize valB fa fw fg vk vn = Y at *
        go_wp2_with fail
        refine wp_region_quiet (C := fun W => Below wr.heap.size wr W) (by kernel_rfl) (by kernel_rfl) (Below.refl _ _).drew ?_
        dsimp only
        go_big_quiet_want; go_big_quiet_op; first | go_big_quiet_on | (refine ⟨_, fun _ _ => rfl, ?_⟩; go_big_quiet_on)
        go_big_quiet_want; refine ⟨.slice (some ⟨b, o, none⟩) N N, fun W hW => (quietLoadOne 68 (.tmp 26) rfl R2 3 rfl _ (rowCells HR5.out hW _ _ rfl) _ Try.underlying68 rfl), ?_⟩; simp only [Act.put, List.setIfInBounds_toArray, List.set_cons_zero, List.set_cons_succ]; go_big_quiet_on
        go_big_quiet_want; go_big_quiet_op; first | go_big_quiet_on | (refine ⟨_, fun _ _ => rfl, ?_⟩; go_big_quiet_on)
        go_big_quiet_want; go_big_quiet_op; first | go_big_quiet_on | (refine ⟨_, fun _ _ => rfl, ?_⟩; go_big_quiet_on)
        go_big_quiet_want; refine ⟨.agg #[.int .i64 fa, .int .i64 fw, .bool fg], fun W hW => (quietLoadCells 77 (.tmp 29) rfl b (o + k * 3) rfl [.int .i64 fa, .int .i64 fw, .bool fg] (grownCells lf HCf.out hW) _ Try.underlying77 rfl (by kernel_rfl)), ?_⟩; simp only [Act.put, List.setIfInBounds_toArray, List.set_cons_zero, List.set_cons_succ]; go_big_quiet_on
        go_big_quiet_want; go_big_quiet_op; first | go_big_quiet_on | (refine ⟨_, fun _ _ => rfl, ?_⟩; go_big_quiet_on)
        go_big_quiet_want; go_big_quiet_op; first | go_big_quiet_on | (refine ⟨_, fun _ _ => rfl, ?_⟩; go_big_quiet_on)
        go_big_quiet_want; go_big_quiet_op; first | go_big_quiet_on | (refine ⟨_, fun _ _ => rfl, ?_⟩; go_big_quiet_on)
        go_big_quiet_want; refine ⟨.agg #[.int .i64 vk, .int .i64 vn], fun W hW => (quietLoadCells 142 (.tmp 33) rfl b2 (o2 + k * 2) rfl [.int .i64 vk, .int .i64 vn] (grownCells lv HCv.out hW) _ Try.underlying142 rfl (by kernel_rfl)), ?_⟩; simp only [Act.put, List.setIfInBounds_toArray, List.set_cons_zero, List.set_cons_succ]; go_big_quiet_on
        go_big_quiet_want; go_big_quiet_op; refine ⟨_, fun W hW => quietCall hW (HVR W).out, ?_⟩; go_big_quiet_on
        go_big_quiet_want; go_big_quiet_op; first | go_big_quiet_on | (refine ⟨_, fun _ _ => rfl, ?_⟩; go_big_quiet_on)
        refine wpQuiet_nil ?_
        intro X hX
        have hbX := hb.trans (hX.mono hb.size)
        rcases Y with _ | _
        · have hv := HNo.out rfl
          go_wp2_with fail
          go_ret
          exact ⟨by first | rfl | (rw [hv]; rfl), HBp.out.trans (hbX.mono HBp.out.size)⟩
        · have HN2 := Lib.hid (HNx.out rfl)
          go_wp2_with fail
          go_roundw
          case rel => exact ⟨k + 1, by go_num, by omega, HN2.out, hbX⟩
          case measure => simp [intOf]; omega
      · have hv := HVy.out (by trivial) (by trivial) (fun i hi => HA.out i (by omega))
        go_wp2_with fail
        go_ret
        exact ⟨by first | rfl | (rw [hv]; rfl), HBp.out.trans (hb.mono HBp.out.size)⟩
  · have hv := HVn.out hMN
    have e1 : ((M : Int) != (N : Int)) = true := by simp; omega
    go_wp2_with (first
      | (refine wpList_alloc_h rfl 70 rfl (.agg #[.int .i64 0, .int .i64 0, .int .i64 0, .slice none 0 0]) (by kernel_rfl) #[.int .i64 0, .int .i64 0, .int .i64 0, .slice none 0 0] rfl ?_; intro w2 R2 e2 g2 b2; have qR2_H1 : H1 ≤ R2 := Nat.le_trans (HL1.out.hi (.head _)).2 (Nat.le_of_eq e2); have HL2 := Lib.hid (show Lg w w2 [(R2, #[.int .i64 0, .int .i64 0, .int .i64 0, .slice none 0 0], 70)] [(L1, H1, fun W => RsNew fdL 3 77 L1 H1 W a F)] from HL1.out.box e2 g2 b2); clear g2 b2 e2)
      | (refine wpList_put_at rfl 70 (.tmp 5) (.tmp 8) rfl rfl (R2) 0 rfl (.agg #[.int .i64 P, .int .i64 S, .int .i64 R, .slice a N N]) rfl #[.int .i64 P, .int .i64 S, .int .i64 R, .slice a N N] rfl 70 #[.int .i64 0, .int .i64 0, .int .i64 0, .slice none 0 0] #[.int .i64 P, .int .i64 S, .int .i64 R, .slice a N N] (HL2.out.get (.head _)) (by kernel_rfl) (by kernel_rfl) (by kernel_rfl) (by kernel_rfl) ?_; intro w3 g3 o3; have HL3 := Lib.hid (show Lg w w3 [(R2, #[.int .i64 P, .int .i64 S, .int .i64 R, .slice a N N], 70)] [(L1, H1, fun W => RsNew fdL 3 77 L1 H1 W a F)] from HL2.out.put 0 rfl g3 o3 (fun _ h => nomatch h) (List.forall_mem_cons.2 ⟨.inl qR2_H1, (fun _ h => nomatch h)⟩) rfl); clear g3 o3)
      | (refine wpList_load_one rfl 2 (.tmp 9) rfl (R2) 1 rfl 70 #[.int .i64 P, .int .i64 S, .int .i64 R, .slice a N N] (0, 0) (HL3.out.get (.head _)) (.int .i64 S) rfl _ Try.underlying2 rfl (by kernel_rfl) ?_)
      | (refine wpList_load_one rfl 68 (.tmp 15) rfl (R2) 3 rfl 70 #[.int .i64 P, .int .i64 S, .int .i64 R, .slice a N N] (0, 0) (HL3.out.get (.head _)) (.slice a N N) rfl _ Try.underlying68 rfl (by kernel_rfl) ?_))
    go_ret
    exact ⟨by first | rfl | (rw [hv]; rfl), HL3.out.below⟩
end Go.Proofs.Ytanijfmfjabmfaa
