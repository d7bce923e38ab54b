/- What the laws' own toId and toCan answer: the same fields. Nothing that was there is written. -/
import Derived.Test.YtdodjkocdaghaaaOpen
namespace Go.Proofs.Ytdodjkocdaghaaa
open Go.RowKit
set_option linter.unusedVariables false
set_option maxHeartbeats 1000000 in
theorem toId_any (a b d s : Int) (w : World) :
    Calls Try.prog 34 #[.agg #[.int .i64 a, .int .i64 b, .int .i64 d, .int .i64 s]] w fun e w' => e = .returned (.agg #[.int .i64 a, .int .i64 b, .int .i64 d, .int .i64 s]) ∧ Below w.heap.size w w' := by
  go_enter Try.func34, Try.ntmps34
  go_wp2
  exact bodyPost_ret (v := .agg #[.int .i64 a, .int .i64 b, .int .i64 d, .int .i64 s]) (by simp [results, Try.results34, go_sem]) rfl ⟨rfl, (((Below.refl _ _).alloc (Nat.le_refl _) _).alloc (by simp) _).alloc (by simp; omega) _⟩
set_option maxHeartbeats 1000000 in
theorem toCan_any (n : Int) (s : ByteArray) (w : World) :
    Calls Try.prog 37 #[.agg #[.int .i64 n, .string s]] w fun e w' => e = .returned (.agg #[.int .i64 n, .string s]) ∧ Below w.heap.size w w' := by
  go_enter Try.func37, Try.ntmps37
  go_wp2
  exact bodyPost_ret (v := .agg #[.int .i64 n, .string s]) (by simp [results, Try.results37, go_sem]) rfl ⟨rfl, (((Below.refl _ _).alloc (Nat.le_refl _) _).alloc (by simp) _).alloc (by simp; omega) _⟩
set_option maxHeartbeats 1000000 in
theorem eqId_same (a b d s : Int) (w : World) :
    Calls Try.prog 64 #[.agg #[.int .i64 a, .int .i64 b, .int .i64 d, .int .i64 s], .agg #[.int .i64 a, .int .i64 b, .int .i64 d, .int .i64 s]] w fun e w' => e = .returned (.bool true) ∧ Below w.heap.size w w' := by
  go_enter Try.func64, Try.ntmps64
  go_wp2
  go_ret
  exact ⟨rfl, ((Below.refl _ _).alloc (Nat.le_refl _) _).alloc (by simp) _⟩
set_option maxHeartbeats 1000000 in
theorem eqIdOut_same (a b d s c : Int) (w : World) :
    Calls Try.prog 35 #[.agg #[.int .i64 a, .int .i64 b, .int .i64 d, .int .i64 s, .int .i64 c], .agg #[.int .i64 a, .int .i64 b, .int .i64 d, .int .i64 s, .int .i64 c]] w fun e w' => e = .returned (.bool true) ∧ Below w.heap.size w w' := by
  go_enter Try.func35, Try.ntmps35
  go_wp2_with (go_at_call 64; refine (eqId_same _ _ _ _ _).mono ?_; rintro e w1 ⟨rfl, h1⟩; obtain ⟨c1, f1⟩ := bcell h1; have z1 : w.heap.size < w1.heap.size := (by have := h1.size; simp at this; omega); have z2 : w.heap.size + 1 < w1.heap.size := (by have := h1.size; simp at this; omega))
  go_ret
  exact ⟨rfl, (((Below.refl _ _).alloc (Nat.le_refl _) _).alloc (by simp) _).trans (h1.mono (by simp; omega))⟩
set_option maxHeartbeats 1000000 in
theorem eqCan_same (n : Int) (s : ByteArray) (w : World) :
    Calls Try.prog 65 #[.agg #[.int .i64 n, .string s], .agg #[.int .i64 n, .string s]] w fun e w' => e = .returned (.bool true) ∧ Below w.heap.size w w' := by
  go_enter Try.func65, Try.ntmps65
  go_wp2
  go_ret
  exact ⟨rfl, ((Below.refl _ _).alloc (Nat.le_refl _) _).alloc (by simp) _⟩
set_option maxHeartbeats 1000000 in
theorem eqCanOut_same (n : Int) (s : ByteArray) (c : Int) (w : World) :
    Calls Try.prog 38 #[.agg #[.int .i64 n, .string s, .int .i64 c], .agg #[.int .i64 n, .string s, .int .i64 c]] w fun e w' => e = .returned (.bool true) ∧ Below w.heap.size w w' := by
  go_enter Try.func38, Try.ntmps38
  go_wp2_with (go_at_call 65; refine (eqCan_same _ _ _).mono ?_; rintro e w1 ⟨rfl, h1⟩; obtain ⟨c1, f1⟩ := bcell h1; have z1 : w.heap.size < w1.heap.size := (by have := h1.size; simp at this; omega); have z2 : w.heap.size + 1 < w1.heap.size := (by have := h1.size; simp at this; omega))
  go_ret
  exact ⟨rfl, (((Below.refl _ _).alloc (Nat.le_refl _) _).alloc (by simp) _).trans (h1.mono (by simp; omega))⟩
set_option maxHeartbeats 1000000 in
theorem szCan_any (n : Int) (s : ByteArray) (m : Int) (w : World) (h0 : 0 ≤ m) (h1 : m ≤ 1048576) (hs : s.size ≤ maxLen) :
    Calls Try.prog 36 #[.agg #[.int .i64 n, .string s], .int .i64 m] w fun e w' => e = .returned (.int .i64 (if m - s.size < 0 then -1 else m - s.size)) ∧ Below w.heap.size w w' := by
  unfold maxLen at hs
  by_cases h : m - s.size < 0
  · have hd : decide (m - (s.size : Int) < 0) = true := decide_eq_true h
    have hw : IntKind.i64.wrap (m - (s.size : Int)) = m - s.size := IntWalk.i64_in _ (by omega)
    rw [if_pos h]
    go_enter Try.func36, Try.ntmps36
    go_wp2
    go_ret
    exact ⟨rfl, (Below.refl _ _).alloc (Nat.le_refl _) _⟩
  · have hd : decide (m - (s.size : Int) < 0) = false := decide_eq_false h
    have hw : IntKind.i64.wrap (m - (s.size : Int)) = m - s.size := IntWalk.i64_in _ (by omega)
    rw [if_neg h]
    go_enter Try.func36, Try.ntmps36
    go_wp2
    go_ret
    exact ⟨rfl, (Below.refl _ _).alloc (Nat.le_refl _) _⟩
end Go.Proofs.Ytdodjkocdaghaaa
