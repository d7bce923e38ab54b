/- What the laws' own toId and toCan answer: the same fields. Nothing that was there is written. -/
import Derived.Test.YtdhmcepnmbchkaaOpen
namespace Go.Proofs.Ytdhmcepnmbchkaa
open Go.RowKit
set_option linter.unusedVariables false
set_option maxHeartbeats 1000000 in
theorem toName_any (n : Nm) (w : World) :
    Calls Try.prog 33 #[nmV n] w fun e w' => e = .returned (nmV n) ∧ Below w.heap.size w w' := by
  obtain ⟨u, m, i, f, c, s, y, a⟩ := n
  unfold nmV
  dsimp only
  go_enter Try.func33, Try.ntmps33
  go_wp2
  exact bodyPost_ret (v := .agg #[.int .i64 u, .int .i64 m, .int .i64 i, .int .i64 f, .int .i64 c, .int .i64 s, .int .i64 y, .bool a]) (by simp [results, Try.results33, go_sem]) rfl ⟨rfl, (((Below.refl _ _).alloc (Nat.le_refl _) _).alloc (by simp) _).alloc (by simp; omega) _⟩
set_option maxHeartbeats 1000000 in
theorem eqName_same (n : Nm) (w : World) :
    Calls Try.prog 123 #[nmV n, nmV n] w fun e w' => e = .returned (.bool true) ∧ Below w.heap.size w w' := by
  obtain ⟨u, m, i, f, c, s, y, a⟩ := n
  unfold nmV
  dsimp only
  go_enter Try.func123, Try.ntmps123
  go_wp2
  go_ret
  exact ⟨rfl, ((Below.refl _ _).alloc (Nat.le_refl _) _).alloc (by simp) _⟩
end Go.Proofs.Ytdhmcepnmbchkaa
