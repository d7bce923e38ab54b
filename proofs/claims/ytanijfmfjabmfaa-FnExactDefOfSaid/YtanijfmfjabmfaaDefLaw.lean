/- A row of the table, alike, marked, read again by the laws' own functions. Nothing that was there is written, but what is marked. -/
import Derived.Test.YtanijfmfjabmfaaDefOf
import Derived.Test.YtanijfmfjabmfaaStep
namespace Go.Proofs.Ytanijfmfjabmfaa
open Go.RowKit
set_option linter.unusedVariables false

set_option maxRecDepth 100000 in
set_option maxHeartbeats 4000000 in
theorem eqDef_same (p s r : Int) (a a' : Option Addr) (c c' : Nat) (l : List Fd) (w : World) (h0 : RsIn fdL 3 w a l) (h1 : RsIn fdL 3 w a' l) (hl : l.length ≤ 1048576) :
    Calls Try.prog 63 #[.agg #[.int .i64 p, .int .i64 s, .int .i64 r, .slice a l.length c], .agg #[.int .i64 p, .int .i64 s, .int .i64 r, .slice a' l.length c']] w fun e w' => e = .returned (.bool true) ∧ Below w.heap.size w w' := by
  have n_p : (p != p) = false := by simp
  have n_s : (s != s) = false := by simp
  have n_r : (r != r) = false := by simp
  go_enter Try.func63, Try.ntmps63
  go_wp2_with (first
    | (refine wpList_box_h rfl 70 (.tmp 0) rfl #[.int .i64 p, .int .i64 s, .int .i64 r, .slice a l.length c] rfl ?_; intro w1 R1 e1 g1 b1; have HL1 := Lib.hid (show Lg w w1 [(R1, #[.int .i64 p, .int .i64 s, .int .i64 r, .slice a l.length c], 70)] [] from (Lg.first w).box e1 g1 b1); clear g1 b1 e1)
    | (refine wpList_box_h rfl 70 (.tmp 1) rfl #[.int .i64 p, .int .i64 s, .int .i64 r, .slice a' l.length c'] rfl ?_; intro w2 R2 e2 g2 b2; have qR2_R1 : R1 < R2 := Nat.lt_of_lt_of_eq (HL1.out.lt (.head _)) e2; have HL2 := Lib.hid (show Lg w w2 [(R2, #[.int .i64 p, .int .i64 s, .int .i64 r, .slice a' l.length c'], 70), (R1, #[.int .i64 p, .int .i64 s, .int .i64 r, .slice a l.length c], 70)] [] from HL1.out.box e2 g2 b2); clear g2 b2 e2)
    | (refine wpList_load_one rfl 2 (.tmp 5) rfl (R1) 0 rfl 70 #[.int .i64 p, .int .i64 s, .int .i64 r, .slice a l.length c] (0, 0) (HL2.out.get (.tail _ (.head _))) (.int .i64 p) rfl _ Try.underlying2 rfl (by kernel_rfl) ?_)
    | (refine wpList_load_one rfl 2 (.tmp 7) rfl (R2) 0 rfl 70 #[.int .i64 p, .int .i64 s, .int .i64 r, .slice a' l.length c'] (0, 0) (HL2.out.get (.head _)) (.int .i64 p) rfl _ Try.underlying2 rfl (by kernel_rfl) ?_)
    | (refine wpList_load_one rfl 2 (.tmp 10) rfl (R1) 1 rfl 70 #[.int .i64 p, .int .i64 s, .int .i64 r, .slice a l.length c] (0, 0) (HL2.out.get (.tail _ (.head _))) (.int .i64 s) rfl _ Try.underlying2 rfl (by kernel_rfl) ?_)
    | (refine wpList_load_one rfl 2 (.tmp 12) rfl (R2) 1 rfl 70 #[.int .i64 p, .int .i64 s, .int .i64 r, .slice a' l.length c'] (0, 0) (HL2.out.get (.head _)) (.int .i64 s) rfl _ Try.underlying2 rfl (by kernel_rfl) ?_)
    | (refine wpList_load_one rfl 2 (.tmp 15) rfl (R1) 2 rfl 70 #[.int .i64 p, .int .i64 s, .int .i64 r, .slice a l.length c] (0, 0) (HL2.out.get (.tail _ (.head _))) (.int .i64 r) rfl _ Try.underlying2 rfl (by kernel_rfl) ?_)
    | (refine wpList_load_one rfl 2 (.tmp 17) rfl (R2) 2 rfl 70 #[.int .i64 p, .int .i64 s, .int .i64 r, .slice a' l.length c'] (0, 0) (HL2.out.get (.head _)) (.int .i64 r) rfl _ Try.underlying2 rfl (by kernel_rfl) ?_)
    | (refine wpList_load_one rfl 68 (.tmp 20) rfl (R1) 3 rfl 70 #[.int .i64 p, .int .i64 s, .int .i64 r, .slice a l.length c] (0, 0) (HL2.out.get (.tail _ (.head _))) (.slice a l.length c) rfl _ Try.underlying68 rfl (by kernel_rfl) ?_)
    | (refine wpList_load_one rfl 68 (.tmp 22) rfl (R2) 3 rfl 70 #[.int .i64 p, .int .i64 s, .int .i64 r, .slice a' l.length c'] (0, 0) (HL2.out.get (.head _)) (.slice a' l.length c') rfl _ Try.underlying68 rfl (by kernel_rfl) ?_))
  refine (eqFieldS_same _ _ _ _ l _ (h0.kept HL2.out.below) (h1.kept HL2.out.below) hl).mono ?_
  rintro e w3 ⟨rfl, h⟩
  have HL3 := Lib.hid (show Lg w w3 [(R2, #[.int .i64 p, .int .i64 s, .int .i64 r, .slice a' l.length c'], 70), (R1, #[.int .i64 p, .int .i64 s, .int .i64 r, .slice a l.length c], 70)] [] from HL2.out.kept h)
  clear h
  go_wp2_with fail
  go_ret
  exact ⟨rfl, HL3.out.below⟩
set_option maxRecDepth 100000 in
set_option maxHeartbeats 4000000 in
theorem markDef_1 {lo hi : Nat} (p s r : Int) (a : Option Addr) (c : Nat) (l : List Fd) (w : World) (h : RsNew fdL 3 77 lo hi w a l) (hhi : hi ≤ w.heap.size) (hl : l.length ≤ 1048576) :
    Calls Try.prog 64 #[.agg #[.int .i64 p, .int .i64 s, .int .i64 r, .slice a l.length c], .int .i64 1] w fun e w' => e = .returned (.int .i64 ((1 + 3 * l.length : Nat) : Int)) ∧ RsNew fdL 3 77 lo hi w' a (marksFd 1 l.length) ∧ Out lo hi w w' := by
  go_enter Try.func64, Try.ntmps64
  go_wp2_with (first
    | (refine wpList_box_h rfl 70 (.tmp 0) rfl #[.int .i64 p, .int .i64 s, .int .i64 r, .slice a l.length c] rfl ?_; intro w1 R1 e1 g1 b1; have HL1 := Lib.hid (show Lg w w1 [(R1, #[.int .i64 p, .int .i64 s, .int .i64 r, .slice a l.length c], 70)] [] from (Lg.first w).box e1 g1 b1); clear g1 b1 e1)
    | (refine wpList_load_one rfl 68 (.tmp 5) rfl (R1) 3 rfl 70 #[.int .i64 p, .int .i64 s, .int .i64 r, .slice a l.length c] (0, 0) (HL1.out.get (.head _)) (.slice a l.length c) rfl _ Try.underlying68 rfl (by kernel_rfl) ?_))
  refine (markFieldS_any _ _ l 1 _ (h.kept HL1.out.below) (by omega) (by omega)).mono ?_
  rintro e w2 ⟨rfl, hn, ho⟩
  go_wp2_with fail
  go_ret
  exact ⟨rfl, hn, (Out.of_below HL1.out.below).trans ho⟩
set_option maxRecDepth 100000 in
set_option maxHeartbeats 4000000 in
theorem heldDef_1 {lo hi : Nat} (p s r : Int) (a : Option Addr) (c : Nat) (N : Nat) (w : World) (h0 : RsNew fdL 3 77 lo hi w a (marksFd 1 N)) (hl : N ≤ 1048576) :
    Calls Try.prog 65 #[.agg #[.int .i64 p, .int .i64 s, .int .i64 r, .slice a N c], .int .i64 1] w fun e w' => e = .returned (.int .i64 ((1 + 3 * N : Nat) : Int)) ∧ Below w.heap.size w w' := by
  have hd : decide (((1 + 3 * N : Nat) : Int) < 0) = false := decide_eq_false (by omega)
  go_enter Try.func65, Try.ntmps65
  go_wp2_with (first
    | (refine wpList_box_h rfl 70 (.tmp 0) rfl #[.int .i64 p, .int .i64 s, .int .i64 r, .slice a N c] rfl ?_; intro w1 R1 e1 g1 b1; have HL1 := Lib.hid (show Lg w w1 [(R1, #[.int .i64 p, .int .i64 s, .int .i64 r, .slice a N c], 70)] [] from (Lg.first w).box e1 g1 b1); clear g1 b1 e1)
    | (refine wpList_load_one rfl 68 (.tmp 5) rfl (R1) 3 rfl 70 #[.int .i64 p, .int .i64 s, .int .i64 r, .slice a N c] (0, 0) (HL1.out.get (.head _)) (.slice a N c) rfl _ Try.underlying68 rfl (by kernel_rfl) ?_))
  refine (heldFieldS_any _ _ N 1 _ (h0.kept HL1.out.below) (by omega) (by omega)).mono ?_
  rintro e w2 ⟨rfl, h⟩
  have HL2 := Lib.hid (show Lg w w2 [(R1, #[.int .i64 p, .int .i64 s, .int .i64 r, .slice a N c], 70)] [] from HL1.out.kept h)
  clear h
  go_wp2_with fail
  go_ret
  exact ⟨rfl, HL2.out.below⟩
end Go.Proofs.Ytanijfmfjabmfaa
