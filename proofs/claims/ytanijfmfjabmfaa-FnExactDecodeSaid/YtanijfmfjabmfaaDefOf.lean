/- The row of one group: the program's and the model's. Its Fields stand in memory of the call's own. -/
import Derived.Test.YtanijfmfjabmfaaDefs
namespace Go.Proofs.Ytanijfmfjabmfaa
open Go.RowKit
set_option linter.unusedVariables false

/-- Where its Fields stand. -/
def aD (B : Nat) (p : Int) : Option Addr := if ixD p < 6 then some ⟨B + ixD p, 0, none⟩ else none
theorem dxD_eq (B : Nat) (p : Int) : dxD B p = ⟨(defD p).p, (defD p).s, (defD p).r, aD B p, (defD p).fs.length⟩ := by
  have h := ixD_le p
  unfold dxD defD aD
  generalize ixD p = i at *
  rcases i with _ | _ | _ | _ | _ | _ | _ | i
  all_goals first | rfl | omega
theorem TabAt.hi {B G : Nat} {w : World} (h : TabAt B G w) : B + 6 ≤ w.heap.size := (Array.getElem?_eq_some_iff.1 (h.flds 5 _ rfl)).1
theorem flds_new {B G : Nat} {w : World} {lo hi : Nat} (h : TabAt B G w) (hlo : lo ≤ B) (hhi : B + 6 ≤ hi) (p : Int) : RsNew fdL 3 77 lo hi w (aD B p) (defD p).fs := by
  unfold aD
  by_cases hp : ixD p < 6
  · rw [if_pos hp]
    obtain ⟨x, hx⟩ : ∃ x, dfs[ixD p]? = some x := ⟨_, List.getElem?_eq_getElem (show ixD p < dfs.length from hp)⟩
    have hd : defD p = x := by unfold defD; rw [hx]; rfl
    rw [hd]
    refine .inr ⟨B + ixD p, 0, _, rfl, by omega, by omega, h.flds _ x hx, by simp [flat_len fdL 3 fdL_len], fun i y hy j v hv => ?_⟩
    have := flat_at fdL 3 fdL_len x.fs i y hy j v hv
    simpa using this
  · have hd : defD p = ⟨0, 0, 0, []⟩ := by
      unfold defD
      rw [List.getElem?_eq_none (show dfs.length ≤ ixD p from by show 6 ≤ _; omega)]
      rfl
    rw [hd]
    exact .inl rfl
theorem rowOf_d (B G : Nat) (p : Int) (w : World) (h : TabAt B G w) :
    Calls Try.prog 124 #[.slice (some ⟨G, 0, none⟩) 6 6, .int .i64 p, .func (.func 126) #[] #[]] w fun e w' => e = .returned (.tuple #[.agg #[.int .i64 (defD p).p, .int .i64 (defD p).s, .int .i64 (defD p).r, .slice (aD B p) (defD p).fs.length (defD p).fs.length], .bool (decide (ixD p < 6))]) ∧ Below w.heap.size w w' := by
  have := rowOf_any B G p w h
  rw [dxD_eq] at this
  exact this
theorem defD_len (p : Int) : (defD p).fs.length ≤ 5 := by
  have h := ixD_le p
  unfold defD
  generalize ixD p = i at *
  rcases i with _ | _ | _ | _ | _ | _ | _ | i
  all_goals first | decide | omega
/-- What DefOf answers. -/
def DefOut (p : Int) (w : World) (e : Ending) (w' : World) : Prop :=
  ∃ a, e = .returned (.agg #[.int .i64 (defD p).p, .int .i64 (defD p).s, .int .i64 (defD p).r, .slice a (defD p).fs.length (defD p).fs.length]) ∧ RsNew fdL 3 77 w.heap.size w'.heap.size w' a (defD p).fs ∧ Below w.heap.size w w'

set_option maxRecDepth 100000 in
set_option maxHeartbeats 4000000 in
theorem implDefOf_any (p : Int) (w : World) : Calls Try.prog 47 #[.int .i64 p] w (DefOut p w) := by
  unfold DefOut
  have HRow := fun B G W h => Lib.hid (rowOf_d B G p W h)
  have HN := Lib.hid (fun B G W lo hi h1 h2 h3 => @flds_new B G W lo hi h1 h2 h3 p)
  generalize defD p = d at *
  obtain ⟨P, S, R, F⟩ := d
  dsimp only at *
  obtain ⟨N, hN⟩ : ∃ N, F.length = N := ⟨_, rfl⟩
  rw [hN] at HRow ⊢
  clear hN
  go_enter Try.func47, Try.ntmps47
  go_wp2_with (first
    | (refine wpList_alloc_h rfl 70 rfl (.agg #[.int .i64 0, .int .i64 0, .int .i64 0, .slice none 0 0]) (by kernel_rfl) #[.int .i64 0, .int .i64 0, .int .i64 0, .slice none 0 0] rfl ?_; intro w1 R1 e1 g1 b1; have HL1 := Lib.hid (show Lg w w1 [(R1, #[.int .i64 0, .int .i64 0, .int .i64 0, .slice none 0 0], 70)] [] from (Lg.first w).box e1 g1 b1); clear g1 b1 e1))
  refine (defs_any _).mono ?_
  rintro e w2 ⟨G, rfl, hT, h⟩
  obtain ⟨L2, e2⟩ : ∃ x, w1.heap.size = x := ⟨_, rfl⟩
  obtain ⟨H2, f2⟩ : ∃ x, w2.heap.size = x := ⟨_, rfl⟩
  have qL2_R1 : R1 < L2 := Nat.lt_of_lt_of_eq (HL1.out.lt (.head _)) e2
  have qH2_L2 : L2 ≤ H2 := (by rw [← e2, ← f2]; exact h.size)
  have HL2 := Lib.hid (show Lg w w2 [(R1, #[.int .i64 0, .int .i64 0, .int .i64 0, .slice none 0 0], 70)] [(L2, H2, fun W => RsNew fdL 3 77 L2 H2 W (aD L2 p) F)] from HL1.out.made e2 f2 h (by rw [← e2, ← f2]; exact (HN.out _ _ _ _ _ hT (Nat.le_refl _) hT.hi).solid))
  have HT2 := Lib.hid (show TabAt L2 G w2 from by rw [← e2]; exact hT)
  clear h hT e2 f2
  go_wp2_with fail
  refine ((HRow _ _ _ HT2.out).out).mono ?_
  rintro e w3 ⟨rfl, h⟩
  have HL3 := Lib.hid (show Lg w w3 [(R1, #[.int .i64 0, .int .i64 0, .int .i64 0, .slice none 0 0], 70)] [(L2, H2, fun W => RsNew fdL 3 77 L2 H2 W (aD L2 p) F)] from HL2.out.kept h)
  clear h
  go_wp2_with (first
    | (refine wpList_alloc_h rfl 70 rfl (.agg #[.int .i64 0, .int .i64 0, .int .i64 0, .slice none 0 0]) (by kernel_rfl) #[.int .i64 0, .int .i64 0, .int .i64 0, .slice none 0 0] rfl ?_; intro w4 R4 e4 g4 b4; have qR4_R1 : R1 < R4 := Nat.lt_of_lt_of_eq (HL3.out.lt (.head _)) e4; have qR4_H2 : H2 ≤ R4 := Nat.le_trans (HL3.out.hi (.head _)).2 (Nat.le_of_eq e4); have HL4 := Lib.hid (show Lg w w4 [(R4, #[.int .i64 0, .int .i64 0, .int .i64 0, .slice none 0 0], 70), (R1, #[.int .i64 0, .int .i64 0, .int .i64 0, .slice none 0 0], 70)] [(L2, H2, fun W => RsNew fdL 3 77 L2 H2 W (aD L2 p) F)] from HL3.out.box e4 g4 b4); clear g4 b4 e4)
    | (refine wpList_put_at rfl 70 (.tmp 3) (.tmp 9) rfl rfl (R4) 0 rfl (.agg #[.int .i64 P, .int .i64 S, .int .i64 R, .slice (aD L2 p) N N]) rfl #[.int .i64 P, .int .i64 S, .int .i64 R, .slice (aD L2 p) N N] rfl 70 #[.int .i64 0, .int .i64 0, .int .i64 0, .slice none 0 0] #[.int .i64 P, .int .i64 S, .int .i64 R, .slice (aD L2 p) N N] (HL4.out.get (.head _)) (by kernel_rfl) (by kernel_rfl) (by kernel_rfl) (by kernel_rfl) ?_; intro w5 g5 o5; have HL5 := Lib.hid (show Lg w w5 [(R4, #[.int .i64 P, .int .i64 S, .int .i64 R, .slice (aD L2 p) N N], 70), (R1, #[.int .i64 0, .int .i64 0, .int .i64 0, .slice none 0 0], 70)] [(L2, H2, fun W => RsNew fdL 3 77 L2 H2 W (aD L2 p) F)] from HL4.out.put 0 rfl g5 o5 (List.forall_mem_cons.2 ⟨Nat.ne_of_lt qR4_R1, (fun _ h => nomatch h)⟩) (List.forall_mem_cons.2 ⟨.inl qR4_H2, (fun _ h => nomatch h)⟩) rfl); clear g5 o5)
    | (refine wpList_load_at rfl 70 (.tmp 3) rfl (R4) 0 rfl 70 #[.int .i64 P, .int .i64 S, .int .i64 R, .slice (aD L2 p) N N] (0, 0) (HL5.out.get (.head _)) [.int .i64 P, .int .i64 S, .int .i64 R, .slice (aD L2 p) N N] rfl _ Try.underlying70 rfl (by kernel_rfl) ?_)
    | (refine wpList_put_at rfl 70 (.tmp 2) (.tmp 11) rfl rfl (R1) 0 rfl (.agg #[.int .i64 P, .int .i64 S, .int .i64 R, .slice (aD L2 p) N N]) rfl #[.int .i64 P, .int .i64 S, .int .i64 R, .slice (aD L2 p) N N] rfl 70 #[.int .i64 0, .int .i64 0, .int .i64 0, .slice none 0 0] #[.int .i64 P, .int .i64 S, .int .i64 R, .slice (aD L2 p) N N] (HL5.out.get (.tail _ (.head _))) (by kernel_rfl) (by kernel_rfl) (by kernel_rfl) (by kernel_rfl) ?_; intro w6 g6 o6; have HL6 := Lib.hid (show Lg w w6 [(R4, #[.int .i64 P, .int .i64 S, .int .i64 R, .slice (aD L2 p) N N], 70), (R1, #[.int .i64 P, .int .i64 S, .int .i64 R, .slice (aD L2 p) N N], 70)] [(L2, H2, fun W => RsNew fdL 3 77 L2 H2 W (aD L2 p) F)] from HL5.out.put 1 rfl g6 o6 (List.forall_mem_cons.2 ⟨Nat.ne_of_gt qR4_R1, (fun _ h => nomatch h)⟩) (List.forall_mem_cons.2 ⟨.inr qL2_R1, (fun _ h => nomatch h)⟩) rfl); clear g6 o6))
  exact bodyPost_ret (results_cell_row (p := 2) (ty := 70) (by kernel_rfl) _ _ (R1) 70 _ (0, 0) _ rfl (HL6.out.get (.tail _ (.head _))) Try.underlying70 rfl (by kernel_rfl)) rfl ⟨_, rfl, ((HL6.out.at (.head _)).wide (HL6.out.lo (.head _)) (HL6.out.hi (.head _)).2), HL6.out.below⟩
theorem l08Plain_any (a b : Int) (w : World) :
    Calls Try.prog 130 #[.int .i64 a, .int .i64 b] w fun e w' => e = .returned (.agg #[.int .i64 a, .int .i64 b, .bool false]) ∧ Below w.heap.size w w' := by
  go_enter Try.func130, Try.ntmps130
  go_wp2
  exact bodyPost_ret (v := .agg #[.int .i64 a, .int .i64 b, .bool false]) (by simp [results, Try.results130, go_sem]) rfl ⟨rfl, (Below.refl _ _).alloc (Nat.le_refl _) _⟩
theorem l08Signed_any (a b : Int) (w : World) :
    Calls Try.prog 131 #[.int .i64 a, .int .i64 b] w fun e w' => e = .returned (.agg #[.int .i64 a, .int .i64 b, .bool true]) ∧ Below w.heap.size w w' := by
  go_enter Try.func131, Try.ntmps131
  go_wp2
  exact bodyPost_ret (v := .agg #[.int .i64 a, .int .i64 b, .bool true]) (by simp [results, Try.results131, go_sem]) rfl ⟨rfl, (Below.refl _ _).alloc (Nat.le_refl _) _⟩
set_option maxRecDepth 100000 in
set_option maxHeartbeats 4000000 in
theorem specDefOf_0 (w : World) : Calls Try.prog 48 #[.int .i64 127250] w (DefOut 127250 w) := by
  unfold DefOut
  have hd : defD 127250 = ⟨127250, 8, 2, [⟨0, 8, false⟩, ⟨8, 16, false⟩, ⟨24, 16, true⟩, ⟨40, 16, true⟩, ⟨56, 2, false⟩]⟩ := rfl
  rw [hd]
  dsimp only [List.length_cons, List.length_nil]
  clear hd
  go_enter Try.func48, Try.ntmps48
  go_wp2_with (first
    | (refine wpList_alloc_h rfl 70 rfl (.agg #[.int .i64 0, .int .i64 0, .int .i64 0, .slice none 0 0]) (by kernel_rfl) #[.int .i64 0, .int .i64 0, .int .i64 0, .slice none 0 0] rfl ?_; intro w1 R1 e1 g1 b1; have HL1 := Lib.hid (show Lg w w1 [(R1, #[.int .i64 0, .int .i64 0, .int .i64 0, .slice none 0 0], 70)] [] from (Lg.first w).box e1 g1 b1); clear g1 b1 e1))
  refine (l08Plain_any 0 8 _).mono ?_
  rintro e w2 ⟨rfl, h⟩
  have HL2 := Lib.hid (show Lg w w2 [(R1, #[.int .i64 0, .int .i64 0, .int .i64 0, .slice none 0 0], 70)] [] from HL1.out.kept h)
  clear h
  go_wp2_with fail
  refine (l08Plain_any 8 16 _).mono ?_
  rintro e w3 ⟨rfl, h⟩
  have HL3 := Lib.hid (show Lg w w3 [(R1, #[.int .i64 0, .int .i64 0, .int .i64 0, .slice none 0 0], 70)] [] from HL2.out.kept h)
  clear h
  go_wp2_with fail
  refine (l08Signed_any 24 16 _).mono ?_
  rintro e w4 ⟨rfl, h⟩
  have HL4 := Lib.hid (show Lg w w4 [(R1, #[.int .i64 0, .int .i64 0, .int .i64 0, .slice none 0 0], 70)] [] from HL3.out.kept h)
  clear h
  go_wp2_with fail
  refine (l08Signed_any 40 16 _).mono ?_
  rintro e w5 ⟨rfl, h⟩
  have HL5 := Lib.hid (show Lg w w5 [(R1, #[.int .i64 0, .int .i64 0, .int .i64 0, .slice none 0 0], 70)] [] from HL4.out.kept h)
  clear h
  go_wp2_with fail
  refine (l08Plain_any 56 2 _).mono ?_
  rintro e w6 ⟨rfl, h⟩
  have HL6 := Lib.hid (show Lg w w6 [(R1, #[.int .i64 0, .int .i64 0, .int .i64 0, .slice none 0 0], 70)] [] from HL5.out.kept h)
  clear h
  obtain ⟨L, eL⟩ : ∃ x, w6.heap.size = x := ⟨_, rfl⟩
  obtain ⟨U, eU⟩ : ∃ U, w6.alloc (.cells #[.int .i64 0, .int .i64 8, .bool false, .int .i64 8, .int .i64 16, .bool false, .int .i64 24, .int .i64 16, .bool true, .int .i64 40, .int .i64 16, .bool true, .int .i64 56, .int .i64 2, .bool false] 77) = U := ⟨_, rfl⟩
  obtain ⟨H, eH⟩ : ∃ x, U.heap.size = x := ⟨_, rfl⟩
  have hbU : Below w6.heap.size w6 U := by rw [← eU]; exact (Below.refl _ _).alloc (Nat.le_refl _) _
  have hnU : RsNew fdL 3 77 L H U (some ⟨L, 0, none⟩) [⟨0, 8, false⟩, ⟨8, 16, false⟩, ⟨24, 16, true⟩, ⟨40, 16, true⟩, ⟨56, 2, false⟩] := .inr ⟨L, 0, _, rfl, Nat.le_refl _, by rw [← eL, ← eH, ← eU]; simp, by rw [← eL, ← eU]; exact heap_alloc_new _ _, by decide, fun i y hy j v hv => by
      have := flat_at fdL 3 fdL_len [⟨0, 8, false⟩, ⟨8, 16, false⟩, ⟨24, 16, true⟩, ⟨40, 16, true⟩, ⟨56, 2, false⟩] i y hy j v hv
      simpa [fdL] using this⟩
  have qL_R1 : R1 < L := Nat.lt_of_lt_of_eq (HL6.out.lt (.head _)) eL
  have HL7 := Lib.hid (show Lg w U [(R1, #[.int .i64 0, .int .i64 0, .int .i64 0, .slice none 0 0], 70)] [(L, H, fun W => RsNew fdL 3 77 L H W (some ⟨L, 0, none⟩) [⟨0, 8, false⟩, ⟨8, 16, false⟩, ⟨24, 16, true⟩, ⟨40, 16, true⟩, ⟨56, 2, false⟩])] from HL6.out.made eL eH hbU hnU.solid)
  clear hbU hnU
  go_wp2_with (first
    | (rw [eU, eL]; refine wpList_put_at rfl 70 (.tmp 2) (.tmp 13) rfl rfl (R1) 0 rfl (.agg #[.int .i64 127250, .int .i64 8, .int .i64 2, .slice (some ⟨L, 0, none⟩) 5 5]) rfl #[.int .i64 127250, .int .i64 8, .int .i64 2, .slice (some ⟨L, 0, none⟩) 5 5] rfl 70 #[.int .i64 0, .int .i64 0, .int .i64 0, .slice none 0 0] #[.int .i64 127250, .int .i64 8, .int .i64 2, .slice (some ⟨L, 0, none⟩) 5 5] (HL7.out.get (.head _)) (by kernel_rfl) (by kernel_rfl) (by kernel_rfl) (by kernel_rfl) ?_; intro w8 g8 o8; have HL8 := Lib.hid (show Lg w w8 [(R1, #[.int .i64 127250, .int .i64 8, .int .i64 2, .slice (some ⟨L, 0, none⟩) 5 5], 70)] [(L, H, fun W => RsNew fdL 3 77 L H W (some ⟨L, 0, none⟩) [⟨0, 8, false⟩, ⟨8, 16, false⟩, ⟨24, 16, true⟩, ⟨40, 16, true⟩, ⟨56, 2, false⟩])] from HL7.out.put 0 rfl g8 o8 (fun _ h => nomatch h) (List.forall_mem_cons.2 ⟨.inr qL_R1, (fun _ h => nomatch h)⟩) rfl); clear g8 o8)
    | (refine wpList_put_at rfl 70 (.tmp 2) (.tmp 13) rfl rfl (R1) 0 rfl (.agg #[.int .i64 127250, .int .i64 8, .int .i64 2, .slice (some ⟨L, 0, none⟩) 5 5]) rfl #[.int .i64 127250, .int .i64 8, .int .i64 2, .slice (some ⟨L, 0, none⟩) 5 5] rfl 70 #[.int .i64 0, .int .i64 0, .int .i64 0, .slice none 0 0] #[.int .i64 127250, .int .i64 8, .int .i64 2, .slice (some ⟨L, 0, none⟩) 5 5] (HL7.out.get (.head _)) (by kernel_rfl) (by kernel_rfl) (by kernel_rfl) (by kernel_rfl) ?_; intro w8 g8 o8; have HL8 := Lib.hid (show Lg w w8 [(R1, #[.int .i64 127250, .int .i64 8, .int .i64 2, .slice (some ⟨L, 0, none⟩) 5 5], 70)] [(L, H, fun W => RsNew fdL 3 77 L H W (some ⟨L, 0, none⟩) [⟨0, 8, false⟩, ⟨8, 16, false⟩, ⟨24, 16, true⟩, ⟨40, 16, true⟩, ⟨56, 2, false⟩])] from HL7.out.put 0 rfl g8 o8 (fun _ h => nomatch h) (List.forall_mem_cons.2 ⟨.inr qL_R1, (fun _ h => nomatch h)⟩) rfl); clear g8 o8))
  exact bodyPost_ret (results_cell_row (p := 2) (ty := 70) (by kernel_rfl) _ _ (R1) 70 _ (0, 0) _ rfl (HL8.out.get (.head _)) Try.underlying70 rfl (by kernel_rfl)) rfl ⟨_, rfl, ((HL8.out.at (.head _)).wide (HL8.out.lo (.head _)) (HL8.out.hi (.head _)).2), HL8.out.below⟩
set_option maxRecDepth 100000 in
set_option maxHeartbeats 4000000 in
theorem specDefOf_1 (w : World) : Calls Try.prog 48 #[.int .i64 127488] w (DefOut 127488 w) := by
  unfold DefOut
  have hd : defD 127488 = ⟨127488, 8, 2, [⟨0, 8, false⟩, ⟨8, 16, false⟩, ⟨24, 16, false⟩, ⟨40, 8, true⟩]⟩ := rfl
  rw [hd]
  dsimp only [List.length_cons, List.length_nil]
  clear hd
  have n0 : ((127488 : Int) == 127250) = false := by decide
  go_enter Try.func48, Try.ntmps48
  go_wp2_with (first
    | (refine wpList_alloc_h rfl 70 rfl (.agg #[.int .i64 0, .int .i64 0, .int .i64 0, .slice none 0 0]) (by kernel_rfl) #[.int .i64 0, .int .i64 0, .int .i64 0, .slice none 0 0] rfl ?_; intro w1 R1 e1 g1 b1; have HL1 := Lib.hid (show Lg w w1 [(R1, #[.int .i64 0, .int .i64 0, .int .i64 0, .slice none 0 0], 70)] [] from (Lg.first w).box e1 g1 b1); clear g1 b1 e1))
  refine (l08Plain_any 0 8 _).mono ?_
  rintro e w2 ⟨rfl, h⟩
  have HL2 := Lib.hid (show Lg w w2 [(R1, #[.int .i64 0, .int .i64 0, .int .i64 0, .slice none 0 0], 70)] [] from HL1.out.kept h)
  clear h
  go_wp2_with fail
  refine (l08Plain_any 8 16 _).mono ?_
  rintro e w3 ⟨rfl, h⟩
  have HL3 := Lib.hid (show Lg w w3 [(R1, #[.int .i64 0, .int .i64 0, .int .i64 0, .slice none 0 0], 70)] [] from HL2.out.kept h)
  clear h
  go_wp2_with fail
  refine (l08Plain_any 24 16 _).mono ?_
  rintro e w4 ⟨rfl, h⟩
  have HL4 := Lib.hid (show Lg w w4 [(R1, #[.int .i64 0, .int .i64 0, .int .i64 0, .slice none 0 0], 70)] [] from HL3.out.kept h)
  clear h
  go_wp2_with fail
  refine (l08Signed_any 40 8 _).mono ?_
  rintro e w5 ⟨rfl, h⟩
  have HL5 := Lib.hid (show Lg w w5 [(R1, #[.int .i64 0, .int .i64 0, .int .i64 0, .slice none 0 0], 70)] [] from HL4.out.kept h)
  clear h
  obtain ⟨L, eL⟩ : ∃ x, w5.heap.size = x := ⟨_, rfl⟩
  obtain ⟨U, eU⟩ : ∃ U, w5.alloc (.cells #[.int .i64 0, .int .i64 8, .bool false, .int .i64 8, .int .i64 16, .bool false, .int .i64 24, .int .i64 16, .bool false, .int .i64 40, .int .i64 8, .bool true] 77) = U := ⟨_, rfl⟩
  obtain ⟨H, eH⟩ : ∃ x, U.heap.size = x := ⟨_, rfl⟩
  have hbU : Below w5.heap.size w5 U := by rw [← eU]; exact (Below.refl _ _).alloc (Nat.le_refl _) _
  have hnU : RsNew fdL 3 77 L H U (some ⟨L, 0, none⟩) [⟨0, 8, false⟩, ⟨8, 16, false⟩, ⟨24, 16, false⟩, ⟨40, 8, true⟩] := .inr ⟨L, 0, _, rfl, Nat.le_refl _, by rw [← eL, ← eH, ← eU]; simp, by rw [← eL, ← eU]; exact heap_alloc_new _ _, by decide, fun i y hy j v hv => by
      have := flat_at fdL 3 fdL_len [⟨0, 8, false⟩, ⟨8, 16, false⟩, ⟨24, 16, false⟩, ⟨40, 8, true⟩] i y hy j v hv
      simpa [fdL] using this⟩
  have qL_R1 : R1 < L := Nat.lt_of_lt_of_eq (HL5.out.lt (.head _)) eL
  have HL6 := Lib.hid (show Lg w U [(R1, #[.int .i64 0, .int .i64 0, .int .i64 0, .slice none 0 0], 70)] [(L, H, fun W => RsNew fdL 3 77 L H W (some ⟨L, 0, none⟩) [⟨0, 8, false⟩, ⟨8, 16, false⟩, ⟨24, 16, false⟩, ⟨40, 8, true⟩])] from HL5.out.made eL eH hbU hnU.solid)
  clear hbU hnU
  go_wp2_with (first
    | (rw [eU, eL]; refine wpList_put_at rfl 70 (.tmp 2) (.tmp 22) rfl rfl (R1) 0 rfl (.agg #[.int .i64 127488, .int .i64 8, .int .i64 2, .slice (some ⟨L, 0, none⟩) 4 4]) rfl #[.int .i64 127488, .int .i64 8, .int .i64 2, .slice (some ⟨L, 0, none⟩) 4 4] rfl 70 #[.int .i64 0, .int .i64 0, .int .i64 0, .slice none 0 0] #[.int .i64 127488, .int .i64 8, .int .i64 2, .slice (some ⟨L, 0, none⟩) 4 4] (HL6.out.get (.head _)) (by kernel_rfl) (by kernel_rfl) (by kernel_rfl) (by kernel_rfl) ?_; intro w7 g7 o7; have HL7 := Lib.hid (show Lg w w7 [(R1, #[.int .i64 127488, .int .i64 8, .int .i64 2, .slice (some ⟨L, 0, none⟩) 4 4], 70)] [(L, H, fun W => RsNew fdL 3 77 L H W (some ⟨L, 0, none⟩) [⟨0, 8, false⟩, ⟨8, 16, false⟩, ⟨24, 16, false⟩, ⟨40, 8, true⟩])] from HL6.out.put 0 rfl g7 o7 (fun _ h => nomatch h) (List.forall_mem_cons.2 ⟨.inr qL_R1, (fun _ h => nomatch h)⟩) rfl); clear g7 o7)
    | (refine wpList_put_at rfl 70 (.tmp 2) (.tmp 22) rfl rfl (R1) 0 rfl (.agg #[.int .i64 127488, .int .i64 8, .int .i64 2, .slice (some ⟨L, 0, none⟩) 4 4]) rfl #[.int .i64 127488, .int .i64 8, .int .i64 2, .slice (some ⟨L, 0, none⟩) 4 4] rfl 70 #[.int .i64 0, .int .i64 0, .int .i64 0, .slice none 0 0] #[.int .i64 127488, .int .i64 8, .int .i64 2, .slice (some ⟨L, 0, none⟩) 4 4] (HL6.out.get (.head _)) (by kernel_rfl) (by kernel_rfl) (by kernel_rfl) (by kernel_rfl) ?_; intro w7 g7 o7; have HL7 := Lib.hid (show Lg w w7 [(R1, #[.int .i64 127488, .int .i64 8, .int .i64 2, .slice (some ⟨L, 0, none⟩) 4 4], 70)] [(L, H, fun W => RsNew fdL 3 77 L H W (some ⟨L, 0, none⟩) [⟨0, 8, false⟩, ⟨8, 16, false⟩, ⟨24, 16, false⟩, ⟨40, 8, true⟩])] from HL6.out.put 0 rfl g7 o7 (fun _ h => nomatch h) (List.forall_mem_cons.2 ⟨.inr qL_R1, (fun _ h => nomatch h)⟩) rfl); clear g7 o7))
  exact bodyPost_ret (results_cell_row (p := 2) (ty := 70) (by kernel_rfl) _ _ (R1) 70 _ (0, 0) _ rfl (HL7.out.get (.head _)) Try.underlying70 rfl (by kernel_rfl)) rfl ⟨_, rfl, ((HL7.out.at (.head _)).wide (HL7.out.lo (.head _)) (HL7.out.hi (.head _)).2), HL7.out.below⟩
set_option maxRecDepth 100000 in
set_option maxHeartbeats 4000000 in
theorem specDefOf_2 (w : World) : Calls Try.prog 48 #[.int .i64 128267] w (DefOut 128267 w) := by
  unfold DefOut
  have hd : defD 128267 = ⟨128267, 8, 3, [⟨0, 8, false⟩, ⟨8, 32, false⟩, ⟨40, 16, true⟩, ⟨56, 8, false⟩]⟩ := rfl
  rw [hd]
  dsimp only [List.length_cons, List.length_nil]
  clear hd
  have n0 : ((128267 : Int) == 127250) = false := by decide
  have n1 : ((128267 : Int) == 127488) = false := by decide
  go_enter Try.func48, Try.ntmps48
  go_wp2_with (first
    | (refine wpList_alloc_h rfl 70 rfl (.agg #[.int .i64 0, .int .i64 0, .int .i64 0, .slice none 0 0]) (by kernel_rfl) #[.int .i64 0, .int .i64 0, .int .i64 0, .slice none 0 0] rfl ?_; intro w1 R1 e1 g1 b1; have HL1 := Lib.hid (show Lg w w1 [(R1, #[.int .i64 0, .int .i64 0, .int .i64 0, .slice none 0 0], 70)] [] from (Lg.first w).box e1 g1 b1); clear g1 b1 e1))
  refine (l08Plain_any 0 8 _).mono ?_
  rintro e w2 ⟨rfl, h⟩
  have HL2 := Lib.hid (show Lg w w2 [(R1, #[.int .i64 0, .int .i64 0, .int .i64 0, .slice none 0 0], 70)] [] from HL1.out.kept h)
  clear h
  go_wp2_with fail
  refine (l08Plain_any 8 32 _).mono ?_
  rintro e w3 ⟨rfl, h⟩
  have HL3 := Lib.hid (show Lg w w3 [(R1, #[.int .i64 0, .int .i64 0, .int .i64 0, .slice none 0 0], 70)] [] from HL2.out.kept h)
  clear h
  go_wp2_with fail
  refine (l08Signed_any 40 16 _).mono ?_
  rintro e w4 ⟨rfl, h⟩
  have HL4 := Lib.hid (show Lg w w4 [(R1, #[.int .i64 0, .int .i64 0, .int .i64 0, .slice none 0 0], 70)] [] from HL3.out.kept h)
  clear h
  go_wp2_with fail
  refine (l08Plain_any 56 8 _).mono ?_
  rintro e w5 ⟨rfl, h⟩
  have HL5 := Lib.hid (show Lg w w5 [(R1, #[.int .i64 0, .int .i64 0, .int .i64 0, .slice none 0 0], 70)] [] from HL4.out.kept h)
  clear h
  obtain ⟨L, eL⟩ : ∃ x, w5.heap.size = x := ⟨_, rfl⟩
  obtain ⟨U, eU⟩ : ∃ U, w5.alloc (.cells #[.int .i64 0, .int .i64 8, .bool false, .int .i64 8, .int .i64 32, .bool false, .int .i64 40, .int .i64 16, .bool true, .int .i64 56, .int .i64 8, .bool false] 77) = U := ⟨_, rfl⟩
  obtain ⟨H, eH⟩ : ∃ x, U.heap.size = x := ⟨_, rfl⟩
  have hbU : Below w5.heap.size w5 U := by rw [← eU]; exact (Below.refl _ _).alloc (Nat.le_refl _) _
  have hnU : RsNew fdL 3 77 L H U (some ⟨L, 0, none⟩) [⟨0, 8, false⟩, ⟨8, 32, false⟩, ⟨40, 16, true⟩, ⟨56, 8, false⟩] := .inr ⟨L, 0, _, rfl, Nat.le_refl _, by rw [← eL, ← eH, ← eU]; simp, by rw [← eL, ← eU]; exact heap_alloc_new _ _, by decide, fun i y hy j v hv => by
      have := flat_at fdL 3 fdL_len [⟨0, 8, false⟩, ⟨8, 32, false⟩, ⟨40, 16, true⟩, ⟨56, 8, false⟩] i y hy j v hv
      simpa [fdL] using this⟩
  have qL_R1 : R1 < L := Nat.lt_of_lt_of_eq (HL5.out.lt (.head _)) eL
  have HL6 := Lib.hid (show Lg w U [(R1, #[.int .i64 0, .int .i64 0, .int .i64 0, .slice none 0 0], 70)] [(L, H, fun W => RsNew fdL 3 77 L H W (some ⟨L, 0, none⟩) [⟨0, 8, false⟩, ⟨8, 32, false⟩, ⟨40, 16, true⟩, ⟨56, 8, false⟩])] from HL5.out.made eL eH hbU hnU.solid)
  clear hbU hnU
  go_wp2_with (first
    | (rw [eU, eL]; refine wpList_put_at rfl 70 (.tmp 2) (.tmp 31) rfl rfl (R1) 0 rfl (.agg #[.int .i64 128267, .int .i64 8, .int .i64 3, .slice (some ⟨L, 0, none⟩) 4 4]) rfl #[.int .i64 128267, .int .i64 8, .int .i64 3, .slice (some ⟨L, 0, none⟩) 4 4] rfl 70 #[.int .i64 0, .int .i64 0, .int .i64 0, .slice none 0 0] #[.int .i64 128267, .int .i64 8, .int .i64 3, .slice (some ⟨L, 0, none⟩) 4 4] (HL6.out.get (.head _)) (by kernel_rfl) (by kernel_rfl) (by kernel_rfl) (by kernel_rfl) ?_; intro w7 g7 o7; have HL7 := Lib.hid (show Lg w w7 [(R1, #[.int .i64 128267, .int .i64 8, .int .i64 3, .slice (some ⟨L, 0, none⟩) 4 4], 70)] [(L, H, fun W => RsNew fdL 3 77 L H W (some ⟨L, 0, none⟩) [⟨0, 8, false⟩, ⟨8, 32, false⟩, ⟨40, 16, true⟩, ⟨56, 8, false⟩])] from HL6.out.put 0 rfl g7 o7 (fun _ h => nomatch h) (List.forall_mem_cons.2 ⟨.inr qL_R1, (fun _ h => nomatch h)⟩) rfl); clear g7 o7)
    | (refine wpList_put_at rfl 70 (.tmp 2) (.tmp 31) rfl rfl (R1) 0 rfl (.agg #[.int .i64 128267, .int .i64 8, .int .i64 3, .slice (some ⟨L, 0, none⟩) 4 4]) rfl #[.int .i64 128267, .int .i64 8, .int .i64 3, .slice (some ⟨L, 0, none⟩) 4 4] rfl 70 #[.int .i64 0, .int .i64 0, .int .i64 0, .slice none 0 0] #[.int .i64 128267, .int .i64 8, .int .i64 3, .slice (some ⟨L, 0, none⟩) 4 4] (HL6.out.get (.head _)) (by kernel_rfl) (by kernel_rfl) (by kernel_rfl) (by kernel_rfl) ?_; intro w7 g7 o7; have HL7 := Lib.hid (show Lg w w7 [(R1, #[.int .i64 128267, .int .i64 8, .int .i64 3, .slice (some ⟨L, 0, none⟩) 4 4], 70)] [(L, H, fun W => RsNew fdL 3 77 L H W (some ⟨L, 0, none⟩) [⟨0, 8, false⟩, ⟨8, 32, false⟩, ⟨40, 16, true⟩, ⟨56, 8, false⟩])] from HL6.out.put 0 rfl g7 o7 (fun _ h => nomatch h) (List.forall_mem_cons.2 ⟨.inr qL_R1, (fun _ h => nomatch h)⟩) rfl); clear g7 o7))
  exact bodyPost_ret (results_cell_row (p := 2) (ty := 70) (by kernel_rfl) _ _ (R1) 70 _ (0, 0) _ rfl (HL7.out.get (.head _)) Try.underlying70 rfl (by kernel_rfl)) rfl ⟨_, rfl, ((HL7.out.at (.head _)).wide (HL7.out.lo (.head _)) (HL7.out.hi (.head _)).2), HL7.out.below⟩
set_option maxRecDepth 100000 in
set_option maxHeartbeats 4000000 in
theorem specDefOf_3 (w : World) : Calls Try.prog 48 #[.int .i64 128275] w (DefOut 128275 w) := by
  unfold DefOut
  have hd : defD 128275 = ⟨128275, 14, 6, [⟨0, 16, false⟩, ⟨16, 32, false⟩, ⟨48, 32, false⟩, ⟨80, 32, false⟩]⟩ := rfl
  rw [hd]
  dsimp only [List.length_cons, List.length_nil]
  clear hd
  have n0 : ((128275 : Int) == 127250) = false := by decide
  have n1 : ((128275 : Int) == 127488) = false := by decide
  have n2 : ((128275 : Int) == 128267) = false := by decide
  go_enter Try.func48, Try.ntmps48
  go_wp2_with (first
    | (refine wpList_alloc_h rfl 70 rfl (.agg #[.int .i64 0, .int .i64 0, .int .i64 0, .slice none 0 0]) (by kernel_rfl) #[.int .i64 0, .int .i64 0, .int .i64 0, .slice none 0 0] rfl ?_; intro w1 R1 e1 g1 b1; have HL1 := Lib.hid (show Lg w w1 [(R1, #[.int .i64 0, .int .i64 0, .int .i64 0, .slice none 0 0], 70)] [] from (Lg.first w).box e1 g1 b1); clear g1 b1 e1))
  refine (l08Plain_any 0 16 _).mono ?_
  rintro e w2 ⟨rfl, h⟩
  have HL2 := Lib.hid (show Lg w w2 [(R1, #[.int .i64 0, .int .i64 0, .int .i64 0, .slice none 0 0], 70)] [] from HL1.out.kept h)
  clear h
  go_wp2_with fail
  refine (l08Plain_any 16 32 _).mono ?_
  rintro e w3 ⟨rfl, h⟩
  have HL3 := Lib.hid (show Lg w w3 [(R1, #[.int .i64 0, .int .i64 0, .int .i64 0, .slice none 0 0], 70)] [] from HL2.out.kept h)
  clear h
  go_wp2_with fail
  refine (l08Plain_any 48 32 _).mono ?_
  rintro e w4 ⟨rfl, h⟩
  have HL4 := Lib.hid (show Lg w w4 [(R1, #[.int .i64 0, .int .i64 0, .int .i64 0, .slice none 0 0], 70)] [] from HL3.out.kept h)
  clear h
  go_wp2_with fail
  refine (l08Plain_any 80 32 _).mono ?_
  rintro e w5 ⟨rfl, h⟩
  have HL5 := Lib.hid (show Lg w w5 [(R1, #[.int .i64 0, .int .i64 0, .int .i64 0, .slice none 0 0], 70)] [] from HL4.out.kept h)
  clear h
  obtain ⟨L, eL⟩ : ∃ x, w5.heap.size = x := ⟨_, rfl⟩
  obtain ⟨U, eU⟩ : ∃ U, w5.alloc (.cells #[.int .i64 0, .int .i64 16, .bool false, .int .i64 16, .int .i64 32, .bool false, .int .i64 48, .int .i64 32, .bool false, .int .i64 80, .int .i64 32, .bool false] 77) = U := ⟨_, rfl⟩
  obtain ⟨H, eH⟩ : ∃ x, U.heap.size = x := ⟨_, rfl⟩
  have hbU : Below w5.heap.size w5 U := by rw [← eU]; exact (Below.refl _ _).alloc (Nat.le_refl _) _
  have hnU : RsNew fdL 3 77 L H U (some ⟨L, 0, none⟩) [⟨0, 16, false⟩, ⟨16, 32, false⟩, ⟨48, 32, false⟩, ⟨80, 32, false⟩] := .inr ⟨L, 0, _, rfl, Nat.le_refl _, by rw [← eL, ← eH, ← eU]; simp, by rw [← eL, ← eU]; exact heap_alloc_new _ _, by decide, fun i y hy j v hv => by
      have := flat_at fdL 3 fdL_len [⟨0, 16, false⟩, ⟨16, 32, false⟩, ⟨48, 32, false⟩, ⟨80, 32, false⟩] i y hy j v hv
      simpa [fdL] using this⟩
  have qL_R1 : R1 < L := Nat.lt_of_lt_of_eq (HL5.out.lt (.head _)) eL
  have HL6 := Lib.hid (show Lg w U [(R1, #[.int .i64 0, .int .i64 0, .int .i64 0, .slice none 0 0], 70)] [(L, H, fun W => RsNew fdL 3 77 L H W (some ⟨L, 0, none⟩) [⟨0, 16, false⟩, ⟨16, 32, false⟩, ⟨48, 32, false⟩, ⟨80, 32, false⟩])] from HL5.out.made eL eH hbU hnU.solid)
  clear hbU hnU
  go_wp2_with (first
    | (rw [eU, eL]; refine wpList_put_at rfl 70 (.tmp 2) (.tmp 40) rfl rfl (R1) 0 rfl (.agg #[.int .i64 128275, .int .i64 14, .int .i64 6, .slice (some ⟨L, 0, none⟩) 4 4]) rfl #[.int .i64 128275, .int .i64 14, .int .i64 6, .slice (some ⟨L, 0, none⟩) 4 4] rfl 70 #[.int .i64 0, .int .i64 0, .int .i64 0, .slice none 0 0] #[.int .i64 128275, .int .i64 14, .int .i64 6, .slice (some ⟨L, 0, none⟩) 4 4] (HL6.out.get (.head _)) (by kernel_rfl) (by kernel_rfl) (by kernel_rfl) (by kernel_rfl) ?_; intro w7 g7 o7; have HL7 := Lib.hid (show Lg w w7 [(R1, #[.int .i64 128275, .int .i64 14, .int .i64 6, .slice (some ⟨L, 0, none⟩) 4 4], 70)] [(L, H, fun W => RsNew fdL 3 77 L H W (some ⟨L, 0, none⟩) [⟨0, 16, false⟩, ⟨16, 32, false⟩, ⟨48, 32, false⟩, ⟨80, 32, false⟩])] from HL6.out.put 0 rfl g7 o7 (fun _ h => nomatch h) (List.forall_mem_cons.2 ⟨.inr qL_R1, (fun _ h => nomatch h)⟩) rfl); clear g7 o7)
    | (refine wpList_put_at rfl 70 (.tmp 2) (.tmp 40) rfl rfl (R1) 0 rfl (.agg #[.int .i64 128275, .int .i64 14, .int .i64 6, .slice (some ⟨L, 0, none⟩) 4 4]) rfl #[.int .i64 128275, .int .i64 14, .int .i64 6, .slice (some ⟨L, 0, none⟩) 4 4] rfl 70 #[.int .i64 0, .int .i64 0, .int .i64 0, .slice none 0 0] #[.int .i64 128275, .int .i64 14, .int .i64 6, .slice (some ⟨L, 0, none⟩) 4 4] (HL6.out.get (.head _)) (by kernel_rfl) (by kernel_rfl) (by kernel_rfl) (by kernel_rfl) ?_; intro w7 g7 o7; have HL7 := Lib.hid (show Lg w w7 [(R1, #[.int .i64 128275, .int .i64 14, .int .i64 6, .slice (some ⟨L, 0, none⟩) 4 4], 70)] [(L, H, fun W => RsNew fdL 3 77 L H W (some ⟨L, 0, none⟩) [⟨0, 16, false⟩, ⟨16, 32, false⟩, ⟨48, 32, false⟩, ⟨80, 32, false⟩])] from HL6.out.put 0 rfl g7 o7 (fun _ h => nomatch h) (List.forall_mem_cons.2 ⟨.inr qL_R1, (fun _ h => nomatch h)⟩) rfl); clear g7 o7))
  exact bodyPost_ret (results_cell_row (p := 2) (ty := 70) (by kernel_rfl) _ _ (R1) 70 _ (0, 0) _ rfl (HL7.out.get (.head _)) Try.underlying70 rfl (by kernel_rfl)) rfl ⟨_, rfl, ((HL7.out.at (.head _)).wide (HL7.out.lo (.head _)) (HL7.out.hi (.head _)).2), HL7.out.below⟩
set_option maxRecDepth 100000 in
set_option maxHeartbeats 4000000 in
theorem specDefOf_4 (w : World) : Calls Try.prog 48 #[.int .i64 129025] w (DefOut 129025 w) := by
  unfold DefOut
  have hd : defD 129025 = ⟨129025, 8, 2, [⟨0, 32, true⟩, ⟨32, 32, true⟩]⟩ := rfl
  rw [hd]
  dsimp only [List.length_cons, List.length_nil]
  clear hd
  have n0 : ((129025 : Int) == 127250) = false := by decide
  have n1 : ((129025 : Int) == 127488) = false := by decide
  have n2 : ((129025 : Int) == 128267) = false := by decide
  have n3 : ((129025 : Int) == 128275) = false := by decide
  go_enter Try.func48, Try.ntmps48
  go_wp2_with (first
    | (refine wpList_alloc_h rfl 70 rfl (.agg #[.int .i64 0, .int .i64 0, .int .i64 0, .slice none 0 0]) (by kernel_rfl) #[.int .i64 0, .int .i64 0, .int .i64 0, .slice none 0 0] rfl ?_; intro w1 R1 e1 g1 b1; have HL1 := Lib.hid (show Lg w w1 [(R1, #[.int .i64 0, .int .i64 0, .int .i64 0, .slice none 0 0], 70)] [] from (Lg.first w).box e1 g1 b1); clear g1 b1 e1))
  refine (l08Signed_any 0 32 _).mono ?_
  rintro e w2 ⟨rfl, h⟩
  have HL2 := Lib.hid (show Lg w w2 [(R1, #[.int .i64 0, .int .i64 0, .int .i64 0, .slice none 0 0], 70)] [] from HL1.out.kept h)
  clear h
  go_wp2_with fail
  refine (l08Signed_any 32 32 _).mono ?_
  rintro e w3 ⟨rfl, h⟩
  have HL3 := Lib.hid (show Lg w w3 [(R1, #[.int .i64 0, .int .i64 0, .int .i64 0, .slice none 0 0], 70)] [] from HL2.out.kept h)
  clear h
  obtain ⟨L, eL⟩ : ∃ x, w3.heap.size = x := ⟨_, rfl⟩
  obtain ⟨U, eU⟩ : ∃ U, w3.alloc (.cells #[.int .i64 0, .int .i64 32, .bool true, .int .i64 32, .int .i64 32, .bool true] 77) = U := ⟨_, rfl⟩
  obtain ⟨H, eH⟩ : ∃ x, U.heap.size = x := ⟨_, rfl⟩
  have hbU : Below w3.heap.size w3 U := by rw [← eU]; exact (Below.refl _ _).alloc (Nat.le_refl _) _
  have hnU : RsNew fdL 3 77 L H U (some ⟨L, 0, none⟩) [⟨0, 32, true⟩, ⟨32, 32, true⟩] := .inr ⟨L, 0, _, rfl, Nat.le_refl _, by rw [← eL, ← eH, ← eU]; simp, by rw [← eL, ← eU]; exact heap_alloc_new _ _, by decide, fun i y hy j v hv => by
      have := flat_at fdL 3 fdL_len [⟨0, 32, true⟩, ⟨32, 32, true⟩] i y hy j v hv
      simpa [fdL] using this⟩
  have qL_R1 : R1 < L := Nat.lt_of_lt_of_eq (HL3.out.lt (.head _)) eL
  have HL4 := Lib.hid (show Lg w U [(R1, #[.int .i64 0, .int .i64 0, .int .i64 0, .slice none 0 0], 70)] [(L, H, fun W => RsNew fdL 3 77 L H W (some ⟨L, 0, none⟩) [⟨0, 32, true⟩, ⟨32, 32, true⟩])] from HL3.out.made eL eH hbU hnU.solid)
  clear hbU hnU
  go_wp2_with (first
    | (rw [eU, eL]; refine wpList_put_at rfl 70 (.tmp 2) (.tmp 47) rfl rfl (R1) 0 rfl (.agg #[.int .i64 129025, .int .i64 8, .int .i64 2, .slice (some ⟨L, 0, none⟩) 2 2]) rfl #[.int .i64 129025, .int .i64 8, .int .i64 2, .slice (some ⟨L, 0, none⟩) 2 2] rfl 70 #[.int .i64 0, .int .i64 0, .int .i64 0, .slice none 0 0] #[.int .i64 129025, .int .i64 8, .int .i64 2, .slice (some ⟨L, 0, none⟩) 2 2] (HL4.out.get (.head _)) (by kernel_rfl) (by kernel_rfl) (by kernel_rfl) (by kernel_rfl) ?_; intro w5 g5 o5; have HL5 := Lib.hid (show Lg w w5 [(R1, #[.int .i64 129025, .int .i64 8, .int .i64 2, .slice (some ⟨L, 0, none⟩) 2 2], 70)] [(L, H, fun W => RsNew fdL 3 77 L H W (some ⟨L, 0, none⟩) [⟨0, 32, true⟩, ⟨32, 32, true⟩])] from HL4.out.put 0 rfl g5 o5 (fun _ h => nomatch h) (List.forall_mem_cons.2 ⟨.inr qL_R1, (fun _ h => nomatch h)⟩) rfl); clear g5 o5)
    | (refine wpList_put_at rfl 70 (.tmp 2) (.tmp 47) rfl rfl (R1) 0 rfl (.agg #[.int .i64 129025, .int .i64 8, .int .i64 2, .slice (some ⟨L, 0, none⟩) 2 2]) rfl #[.int .i64 129025, .int .i64 8, .int .i64 2, .slice (some ⟨L, 0, none⟩) 2 2] rfl 70 #[.int .i64 0, .int .i64 0, .int .i64 0, .slice none 0 0] #[.int .i64 129025, .int .i64 8, .int .i64 2, .slice (some ⟨L, 0, none⟩) 2 2] (HL4.out.get (.head _)) (by kernel_rfl) (by kernel_rfl) (by kernel_rfl) (by kernel_rfl) ?_; intro w5 g5 o5; have HL5 := Lib.hid (show Lg w w5 [(R1, #[.int .i64 129025, .int .i64 8, .int .i64 2, .slice (some ⟨L, 0, none⟩) 2 2], 70)] [(L, H, fun W => RsNew fdL 3 77 L H W (some ⟨L, 0, none⟩) [⟨0, 32, true⟩, ⟨32, 32, true⟩])] from HL4.out.put 0 rfl g5 o5 (fun _ h => nomatch h) (List.forall_mem_cons.2 ⟨.inr qL_R1, (fun _ h => nomatch h)⟩) rfl); clear g5 o5))
  exact bodyPost_ret (results_cell_row (p := 2) (ty := 70) (by kernel_rfl) _ _ (R1) 70 _ (0, 0) _ rfl (HL5.out.get (.head _)) Try.underlying70 rfl (by kernel_rfl)) rfl ⟨_, rfl, ((HL5.out.at (.head _)).wide (HL5.out.lo (.head _)) (HL5.out.hi (.head _)).2), HL5.out.below⟩
set_option maxRecDepth 100000 in
set_option maxHeartbeats 4000000 in
theorem specDefOf_5 (w : World) : Calls Try.prog 48 #[.int .i64 130306] w (DefOut 130306 w) := by
  unfold DefOut
  have hd : defD 130306 = ⟨130306, 8, 2, [⟨0, 8, false⟩, ⟨8, 16, false⟩, ⟨24, 16, false⟩, ⟨40, 3, false⟩]⟩ := rfl
  rw [hd]
  dsimp only [List.length_cons, List.length_nil]
  clear hd
  have n0 : ((130306 : Int) == 127250) = false := by decide
  have n1 : ((130306 : Int) == 127488) = false := by decide
  have n2 : ((130306 : Int) == 128267) = false := by decide
  have n3 : ((130306 : Int) == 128275) = false := by decide
  have n4 : ((130306 : Int) == 129025) = false := by decide
  go_enter Try.func48, Try.ntmps48
  go_wp2_with (first
    | (refine wpList_alloc_h rfl 70 rfl (.agg #[.int .i64 0, .int .i64 0, .int .i64 0, .slice none 0 0]) (by kernel_rfl) #[.int .i64 0, .int .i64 0, .int .i64 0, .slice none 0 0] rfl ?_; intro w1 R1 e1 g1 b1; have HL1 := Lib.hid (show Lg w w1 [(R1, #[.int .i64 0, .int .i64 0, .int .i64 0, .slice none 0 0], 70)] [] from (Lg.first w).box e1 g1 b1); clear g1 b1 e1))
  refine (l08Plain_any 0 8 _).mono ?_
  rintro e w2 ⟨rfl, h⟩
  have HL2 := Lib.hid (show Lg w w2 [(R1, #[.int .i64 0, .int .i64 0, .int .i64 0, .slice none 0 0], 70)] [] from HL1.out.kept h)
  clear h
  go_wp2_with fail
  refine (l08Plain_any 8 16 _).mono ?_
  rintro e w3 ⟨rfl, h⟩
  have HL3 := Lib.hid (show Lg w w3 [(R1, #[.int .i64 0, .int .i64 0, .int .i64 0, .slice none 0 0], 70)] [] from HL2.out.kept h)
  clear h
  go_wp2_with fail
  refine (l08Plain_any 24 16 _).mono ?_
  rintro e w4 ⟨rfl, h⟩
  have HL4 := Lib.hid (show Lg w w4 [(R1, #[.int .i64 0, .int .i64 0, .int .i64 0, .slice none 0 0], 70)] [] from HL3.out.kept h)
  clear h
  go_wp2_with fail
  refine (l08Plain_any 40 3 _).mono ?_
  rintro e w5 ⟨rfl, h⟩
  have HL5 := Lib.hid (show Lg w w5 [(R1, #[.int .i64 0, .int .i64 0, .int .i64 0, .slice none 0 0], 70)] [] from HL4.out.kept h)
  clear h
  obtain ⟨L, eL⟩ : ∃ x, w5.heap.size = x := ⟨_, rfl⟩
  obtain ⟨U, eU⟩ : ∃ U, w5.alloc (.cells #[.int .i64 0, .int .i64 8, .bool false, .int .i64 8, .int .i64 16, .bool false, .int .i64 24, .int .i64 16, .bool false, .int .i64 40, .int .i64 3, .bool false] 77) = U := ⟨_, rfl⟩
  obtain ⟨H, eH⟩ : ∃ x, U.heap.size = x := ⟨_, rfl⟩
  have hbU : Below w5.heap.size w5 U := by rw [← eU]; exact (Below.refl _ _).alloc (Nat.le_refl _) _
  have hnU : RsNew fdL 3 77 L H U (some ⟨L, 0, none⟩) [⟨0, 8, false⟩, ⟨8, 16, false⟩, ⟨24, 16, false⟩, ⟨40, 3, false⟩] := .inr ⟨L, 0, _, rfl, Nat.le_refl _, by rw [← eL, ← eH, ← eU]; simp, by rw [← eL, ← eU]; exact heap_alloc_new _ _, by decide, fun i y hy j v hv => by
      have := flat_at fdL 3 fdL_len [⟨0, 8, false⟩, ⟨8, 16, false⟩, ⟨24, 16, false⟩, ⟨40, 3, false⟩] i y hy j v hv
      simpa [fdL] using this⟩
  have qL_R1 : R1 < L := Nat.lt_of_lt_of_eq (HL5.out.lt (.head _)) eL
  have HL6 := Lib.hid (show Lg w U [(R1, #[.int .i64 0, .int .i64 0, .int .i64 0, .slice none 0 0], 70)] [(L, H, fun W => RsNew fdL 3 77 L H W (some ⟨L, 0, none⟩) [⟨0, 8, false⟩, ⟨8, 16, false⟩, ⟨24, 16, false⟩, ⟨40, 3, false⟩])] from HL5.out.made eL eH hbU hnU.solid)
  clear hbU hnU
  go_wp2_with (first
    | (rw [eU, eL]; refine wpList_put_at rfl 70 (.tmp 2) (.tmp 56) rfl rfl (R1) 0 rfl (.agg #[.int .i64 130306, .int .i64 8, .int .i64 2, .slice (some ⟨L, 0, none⟩) 4 4]) rfl #[.int .i64 130306, .int .i64 8, .int .i64 2, .slice (some ⟨L, 0, none⟩) 4 4] rfl 70 #[.int .i64 0, .int .i64 0, .int .i64 0, .slice none 0 0] #[.int .i64 130306, .int .i64 8, .int .i64 2, .slice (some ⟨L, 0, none⟩) 4 4] (HL6.out.get (.head _)) (by kernel_rfl) (by kernel_rfl) (by kernel_rfl) (by kernel_rfl) ?_; intro w7 g7 o7; have HL7 := Lib.hid (show Lg w w7 [(R1, #[.int .i64 130306, .int .i64 8, .int .i64 2, .slice (some ⟨L, 0, none⟩) 4 4], 70)] [(L, H, fun W => RsNew fdL 3 77 L H W (some ⟨L, 0, none⟩) [⟨0, 8, false⟩, ⟨8, 16, false⟩, ⟨24, 16, false⟩, ⟨40, 3, false⟩])] from HL6.out.put 0 rfl g7 o7 (fun _ h => nomatch h) (List.forall_mem_cons.2 ⟨.inr qL_R1, (fun _ h => nomatch h)⟩) rfl); clear g7 o7)
    | (refine wpList_put_at rfl 70 (.tmp 2) (.tmp 56) rfl rfl (R1) 0 rfl (.agg #[.int .i64 130306, .int .i64 8, .int .i64 2, .slice (some ⟨L, 0, none⟩) 4 4]) rfl #[.int .i64 130306, .int .i64 8, .int .i64 2, .slice (some ⟨L, 0, none⟩) 4 4] rfl 70 #[.int .i64 0, .int .i64 0, .int .i64 0, .slice none 0 0] #[.int .i64 130306, .int .i64 8, .int .i64 2, .slice (some ⟨L, 0, none⟩) 4 4] (HL6.out.get (.head _)) (by kernel_rfl) (by kernel_rfl) (by kernel_rfl) (by kernel_rfl) ?_; intro w7 g7 o7; have HL7 := Lib.hid (show Lg w w7 [(R1, #[.int .i64 130306, .int .i64 8, .int .i64 2, .slice (some ⟨L, 0, none⟩) 4 4], 70)] [(L, H, fun W => RsNew fdL 3 77 L H W (some ⟨L, 0, none⟩) [⟨0, 8, false⟩, ⟨8, 16, false⟩, ⟨24, 16, false⟩, ⟨40, 3, false⟩])] from HL6.out.put 0 rfl g7 o7 (fun _ h => nomatch h) (List.forall_mem_cons.2 ⟨.inr qL_R1, (fun _ h => nomatch h)⟩) rfl); clear g7 o7))
  exact bodyPost_ret (results_cell_row (p := 2) (ty := 70) (by kernel_rfl) _ _ (R1) 70 _ (0, 0) _ rfl (HL7.out.get (.head _)) Try.underlying70 rfl (by kernel_rfl)) rfl ⟨_, rfl, ((HL7.out.at (.head _)).wide (HL7.out.lo (.head _)) (HL7.out.hi (.head _)).2), HL7.out.below⟩
set_option maxRecDepth 100000 in
set_option maxHeartbeats 4000000 in
theorem specDefOf_no (p : Int) (w : World) (h : ixD p = 6) : Calls Try.prog 48 #[.int .i64 p] w (DefOut p w) := by
  unfold DefOut
  have hd : defD p = ⟨0, 0, 0, []⟩ := by unfold defD; rw [h]; rfl
  rw [hd]
  have n0 : (p == 127250) = false := by
    have : p ≠ 127250 := fun e => by rw [e] at h; exact absurd h (by decide)
    simpa using this
  have n1 : (p == 127488) = false := by
    have : p ≠ 127488 := fun e => by rw [e] at h; exact absurd h (by decide)
    simpa using this
  have n2 : (p == 128267) = false := by
    have : p ≠ 128267 := fun e => by rw [e] at h; exact absurd h (by decide)
    simpa using this
  have n3 : (p == 128275) = false := by
    have : p ≠ 128275 := fun e => by rw [e] at h; exact absurd h (by decide)
    simpa using this
  have n4 : (p == 129025) = false := by
    have : p ≠ 129025 := fun e => by rw [e] at h; exact absurd h (by decide)
    simpa using this
  have n5 : (p == 130306) = false := by
    have : p ≠ 130306 := fun e => by rw [e] at h; exact absurd h (by decide)
    simpa using this
  clear hd h
  go_enter Try.func48, Try.ntmps48
  go_wp2
  exact bodyPost_ret (v := .agg #[.int .i64 0, .int .i64 0, .int .i64 0, .slice none 0 0]) (by simp [results, Try.results48, go_sem]) rfl ⟨none, rfl, .inl rfl, (Below.refl _ _).alloc (Nat.le_refl _) _⟩
theorem specDefOf_any (p : Int) (w : World) : Calls Try.prog 48 #[.int .i64 p] w (DefOut p w) := by
  by_cases h0 : p = 127250
  · subst h0; exact specDefOf_0 w
  by_cases h1 : p = 127488
  · subst h1; exact specDefOf_1 w
  by_cases h2 : p = 128267
  · subst h2; exact specDefOf_2 w
  by_cases h3 : p = 128275
  · subst h3; exact specDefOf_3 w
  by_cases h4 : p = 129025
  · subst h4; exact specDefOf_4 w
  by_cases h5 : p = 130306
  · subst h5; exact specDefOf_5 w
  exact specDefOf_no p w (by unfold ixD; rw [if_neg h0, if_neg h1, if_neg h2, if_neg h3, if_neg h4, if_neg h5])
end Go.Proofs.Ytanijfmfjabmfaa
