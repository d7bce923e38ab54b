/- What the laws' own toId and toCan answer: the same fields. Nothing that was there is written. -/
import Derived.Test.YtemnekmjihnkdaaOpen
namespace Go.Proofs.Ytemnekmjihnkdaa
open Go.RowKit
set_option linter.unusedVariables false
set_option maxHeartbeats 1000000 in
theorem eqCan_same (n : Int) (s : ByteArray) (w : World) :
    Calls Try.prog 32 #[.agg #[.int .i64 n, .string s], .agg #[.int .i64 n, .string s]] w fun e w' => e = .returned (.bool true) ∧ Below w.heap.size w w' := by
  go_enter Try.func32, Try.ntmps32
  go_wp2
  go_ret
  exact ⟨rfl, ((Below.refl _ _).alloc (Nat.le_refl _) _).alloc (by simp) _⟩
set_option maxHeartbeats 1000000 in
theorem toName_any (n : Nm) (w : World) :
    Calls Try.prog 28 #[nmV n] w fun e w' => e = .returned (nmV n) ∧ Below w.heap.size w w' := by
  obtain ⟨u, m, i, f, c, s, y, a⟩ := n
  unfold nmV
  dsimp only
  go_enter Try.func28, Try.ntmps28
  go_wp2
  exact bodyPost_ret (v := .agg #[.int .i64 u, .int .i64 m, .int .i64 i, .int .i64 f, .int .i64 c, .int .i64 s, .int .i64 y, .bool a]) (by simp [results, Try.results28, go_sem]) rfl ⟨rfl, (((Below.refl _ _).alloc (Nat.le_refl _) _).alloc (by simp) _).alloc (by simp; omega) _⟩
set_option maxHeartbeats 1000000 in
theorem eqName_same (n : Nm) (w : World) :
    Calls Try.prog 59 #[nmV n, nmV n] w fun e w' => e = .returned (.bool true) ∧ Below w.heap.size w w' := by
  obtain ⟨u, m, i, f, c, s, y, a⟩ := n
  unfold nmV
  dsimp only
  go_enter Try.func59, Try.ntmps59
  go_wp2
  go_ret
  exact ⟨rfl, ((Below.refl _ _).alloc (Nat.le_refl _) _).alloc (by simp) _⟩
end Go.Proofs.Ytemnekmjihnkdaa
