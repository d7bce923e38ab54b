/- What the laws' own toId and toCan answer: the same fields. Nothing that was there is written. -/
import Derived.Test.YtmfnbbjhaolhgaaOpen
namespace Go.Proofs.Ytmfnbbjhaolhgaa
open Go.RowKit
set_option linter.unusedVariables false
set_option maxHeartbeats 1000000 in
theorem toCan_any (n : Int) (s : ByteArray) (w : World) :
    Calls Try.prog 56 #[.agg #[.int .i64 n, .string s]] w fun e w' => e = .returned (.agg #[.int .i64 n, .string s]) ∧ Below w.heap.size w w' := by
  go_enter Try.func56, Try.ntmps56
  go_wp2
  exact bodyPost_ret (v := .agg #[.int .i64 n, .string s]) (by simp [results, Try.results56, go_sem]) rfl ⟨rfl, (((Below.refl _ _).alloc (Nat.le_refl _) _).alloc (by simp) _).alloc (by simp; omega) _⟩
set_option maxHeartbeats 1000000 in
theorem eqCan_same (n : Int) (s : ByteArray) (w : World) :
    Calls Try.prog 57 #[.agg #[.int .i64 n, .string s], .agg #[.int .i64 n, .string s]] w fun e w' => e = .returned (.bool true) ∧ Below w.heap.size w w' := by
  go_enter Try.func57, Try.ntmps57
  go_wp2
  go_ret
  exact ⟨rfl, ((Below.refl _ _).alloc (Nat.le_refl _) _).alloc (by simp) _⟩
set_option maxHeartbeats 1000000 in
theorem szCan_any (n : Int) (s : ByteArray) (m : Int) (w : World) (h0 : 0 ≤ m) (h1 : m ≤ 1048576) (hs : s.size ≤ maxLen) :
    Calls Try.prog 55 #[.agg #[.int .i64 n, .string s], .int .i64 m] w fun e w' => e = .returned (.int .i64 (if m - s.size < 0 then -1 else m - s.size)) ∧ Below w.heap.size w w' := by
  unfold maxLen at hs
  by_cases h : m - s.size < 0
  · have hd : decide (m - (s.size : Int) < 0) = true := decide_eq_true h
    have hw : IntKind.i64.wrap (m - (s.size : Int)) = m - s.size := IntWalk.i64_in _ (by omega)
    rw [if_pos h]
    go_enter Try.func55, Try.ntmps55
    go_wp2
    go_ret
    exact ⟨rfl, (Below.refl _ _).alloc (Nat.le_refl _) _⟩
  · have hd : decide (m - (s.size : Int) < 0) = false := decide_eq_false h
    have hw : IntKind.i64.wrap (m - (s.size : Int)) = m - s.size := IntWalk.i64_in _ (by omega)
    rw [if_neg h]
    go_enter Try.func55, Try.ntmps55
    go_wp2
    go_ret
    exact ⟨rfl, (Below.refl _ _).alloc (Nat.le_refl _) _⟩
end Go.Proofs.Ytmfnbbjhaolhgaa
