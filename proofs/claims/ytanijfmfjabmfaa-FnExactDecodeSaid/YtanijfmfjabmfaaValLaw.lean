/- Values with a code, alike, marked, read again by the laws' own functions. Nothing that was there is written, but what is marked. -/
import Derived.Test.YtanijfmfjabmfaaVls
import Derived.Test.YtanijfmfjabmfaaStep
namespace Go.Proofs.Ytanijfmfjabmfaa
open Go.RowKit
set_option linter.unusedVariables false

set_option maxRecDepth 100000 in
set_option maxHeartbeats 4000000 in
theorem eqValuesOut_same (q : Int) (a a' : Option Addr) (c c' : Nat) (l : List Vl) (w : World) (h0 : RsIn vlL 2 w a l) (h1 : RsIn vlL 2 w a' l) (hl : l.length ≤ 1048576) :
    Calls Try.prog 72 #[.agg #[.slice a l.length c, .int .i64 q], .agg #[.slice a' l.length c', .int .i64 q]] w fun e w' => e = .returned (.bool true) ∧ Below w.heap.size w w' := by
  have n_q : (q != q) = false := by simp
  go_enter Try.func72, Try.ntmps72
  go_wp2_with (first
    | (refine wpList_box_h rfl 66 (.tmp 0) rfl #[.slice a l.length c, .int .i64 q] rfl ?_; intro w1 R1 e1 g1 b1; have HL1 := Lib.hid (show Lg w w1 [(R1, #[.slice a l.length c, .int .i64 q], 66)] [] from (Lg.first w).box e1 g1 b1); clear g1 b1 e1)
    | (refine wpList_box_h rfl 66 (.tmp 1) rfl #[.slice a' l.length c', .int .i64 q] rfl ?_; intro w2 R2 e2 g2 b2; have qR2_R1 : R1 < R2 := Nat.lt_of_lt_of_eq (HL1.out.lt (.head _)) e2; have HL2 := Lib.hid (show Lg w w2 [(R2, #[.slice a' l.length c', .int .i64 q], 66), (R1, #[.slice a l.length c, .int .i64 q], 66)] [] from HL1.out.box e2 g2 b2); clear g2 b2 e2)
    | (refine wpList_load_one rfl 61 (.tmp 5) rfl (R1) 0 rfl 66 #[.slice a l.length c, .int .i64 q] (0, 0) (HL2.out.get (.tail _ (.head _))) (.slice a l.length c) rfl _ Try.underlying61 rfl (by kernel_rfl) ?_)
    | (refine wpList_load_one rfl 61 (.tmp 7) rfl (R2) 0 rfl 66 #[.slice a' l.length c', .int .i64 q] (0, 0) (HL2.out.get (.head _)) (.slice a' l.length c') rfl _ Try.underlying61 rfl (by kernel_rfl) ?_))
  refine (eqValueS_same _ _ _ _ l _ (h0.kept HL2.out.below) (h1.kept HL2.out.below) hl).mono ?_
  rintro e w3 ⟨rfl, h⟩
  have HL3 := Lib.hid (show Lg w w3 [(R2, #[.slice a' l.length c', .int .i64 q], 66), (R1, #[.slice a l.length c, .int .i64 q], 66)] [] from HL2.out.kept h)
  clear h
  go_wp2_with (first
    | (refine wpList_load_one rfl 2 (.tmp 11) rfl (R1) 1 rfl 66 #[.slice a l.length c, .int .i64 q] (0, 0) (HL3.out.get (.tail _ (.head _))) (.int .i64 q) rfl _ Try.underlying2 rfl (by kernel_rfl) ?_)
    | (refine wpList_load_one rfl 2 (.tmp 13) rfl (R2) 1 rfl 66 #[.slice a' l.length c', .int .i64 q] (0, 0) (HL3.out.get (.head _)) (.int .i64 q) rfl _ Try.underlying2 rfl (by kernel_rfl) ?_))
  go_ret
  exact ⟨rfl, HL3.out.below⟩
set_option maxRecDepth 100000 in
set_option maxHeartbeats 4000000 in
theorem markValuesOut_1 {lo hi : Nat} (q : Int) (a : Option Addr) (c : Nat) (l : List Vl) (w : World) (h : RsNew vlL 2 142 lo hi w a l) (hhi : hi ≤ w.heap.size) (hl : l.length ≤ 1048576) :
    Calls Try.prog 73 #[.agg #[.slice a l.length c, .int .i64 q], .int .i64 1] w fun e w' => e = .returned (.int .i64 ((1 + 2 * l.length : Nat) : Int)) ∧ RsNew vlL 2 142 lo hi w' a (marksVl 1 l.length) ∧ Out lo hi w w' := by
  go_enter Try.func73, Try.ntmps73
  go_wp2_with (first
    | (refine wpList_box_h rfl 66 (.tmp 0) rfl #[.slice a l.length c, .int .i64 q] rfl ?_; intro w1 R1 e1 g1 b1; have HL1 := Lib.hid (show Lg w w1 [(R1, #[.slice a l.length c, .int .i64 q], 66)] [] from (Lg.first w).box e1 g1 b1); clear g1 b1 e1)
    | (refine wpList_load_one rfl 61 (.tmp 5) rfl (R1) 0 rfl 66 #[.slice a l.length c, .int .i64 q] (0, 0) (HL1.out.get (.head _)) (.slice a l.length c) rfl _ Try.underlying61 rfl (by kernel_rfl) ?_))
  refine (markValueS_any _ _ l 1 _ (h.kept HL1.out.below) (by omega) (by omega)).mono ?_
  rintro e w2 ⟨rfl, hn, ho⟩
  go_wp2_with fail
  go_ret
  exact ⟨rfl, hn, (Out.of_below HL1.out.below).trans ho⟩
set_option maxRecDepth 100000 in
set_option maxHeartbeats 4000000 in
theorem heldValuesOut_1 {lo hi : Nat} (q : Int) (a : Option Addr) (c : Nat) (N : Nat) (w : World) (h0 : RsNew vlL 2 142 lo hi w a (marksVl 1 N)) (hl : N ≤ 1048576) :
    Calls Try.prog 74 #[.agg #[.slice a N c, .int .i64 q], .int .i64 1] w fun e w' => e = .returned (.int .i64 ((1 + 2 * N : Nat) : Int)) ∧ Below w.heap.size w w' := by
  have hd : decide (((1 + 2 * N : Nat) : Int) < 0) = false := decide_eq_false (by omega)
  go_enter Try.func74, Try.ntmps74
  go_wp2_with (first
    | (refine wpList_box_h rfl 66 (.tmp 0) rfl #[.slice a N c, .int .i64 q] rfl ?_; intro w1 R1 e1 g1 b1; have HL1 := Lib.hid (show Lg w w1 [(R1, #[.slice a N c, .int .i64 q], 66)] [] from (Lg.first w).box e1 g1 b1); clear g1 b1 e1)
    | (refine wpList_load_one rfl 61 (.tmp 5) rfl (R1) 0 rfl 66 #[.slice a N c, .int .i64 q] (0, 0) (HL1.out.get (.head _)) (.slice a N c) rfl _ Try.underlying61 rfl (by kernel_rfl) ?_))
  refine (heldValueS_any _ _ N 1 _ (h0.kept HL1.out.below) (by omega) (by omega)).mono ?_
  rintro e w2 ⟨rfl, h⟩
  have HL2 := Lib.hid (show Lg w w2 [(R1, #[.slice a N c, .int .i64 q], 66)] [] from HL1.out.kept h)
  clear h
  go_wp2_with fail
  go_ret
  exact ⟨rfl, HL2.out.below⟩
end Go.Proofs.Ytanijfmfjabmfaa
