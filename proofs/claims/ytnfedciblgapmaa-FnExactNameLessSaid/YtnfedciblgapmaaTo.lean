/- What the laws' own toId and toCan answer: the same fields. Nothing that was there is written. -/
import Derived.Test.YtnfedciblgapmaaOpen
import Derived.Test.YtnfedciblgapmaaNameFrom
namespace Go.Proofs.Ytnfedciblgapmaa
open Go.RowKit
set_option linter.unusedVariables false
set_option maxHeartbeats 1000000 in
theorem toName_any (n : Nm) (w : World) :
    Calls Try.prog 19 #[nmV n] w fun e w' => e = .returned (nmV n) ∧ Below w.heap.size w w' := by
  obtain ⟨u, m, i, f, c, s, y, a⟩ := n
  unfold nmV
  dsimp only
  go_enter Try.func19, Try.ntmps19
  go_wp2
  exact bodyPost_ret (v := .agg #[.int .i64 u, .int .i64 m, .int .i64 i, .int .i64 f, .int .i64 c, .int .i64 s, .int .i64 y, .bool a]) (by simp [results, Try.results19, go_sem]) rfl ⟨rfl, (((Below.refl _ _).alloc (Nat.le_refl _) _).alloc (by simp) _).alloc (by simp; omega) _⟩
set_option maxHeartbeats 1000000 in
theorem eqName_same (n : Nm) (w : World) :
    Calls Try.prog 36 #[nmV n, nmV n] w fun e w' => e = .returned (.bool true) ∧ Below w.heap.size w w' := by
  obtain ⟨u, m, i, f, c, s, y, a⟩ := n
  unfold nmV
  dsimp only
  go_enter Try.func36, Try.ntmps36
  go_wp2
  go_ret
  exact ⟨rfl, ((Below.refl _ _).alloc (Nat.le_refl _) _).alloc (by simp) _⟩
set_option maxHeartbeats 1000000 in
theorem eqNameOut_same (n : Nm) (k : Int) (w : World) :
    Calls Try.prog 20 #[nmOutV n k, nmOutV n k] w fun e w' => e = .returned (.bool true) ∧ Below w.heap.size w w' := by
  have H := fun W => Lib.hid (eqName_same n W)
  obtain ⟨u, m, i, f, c, s, y, a⟩ := n
  unfold nmV at H
  unfold nmOutV
  dsimp only at *
  go_enter Try.func20, Try.ntmps20
  go_wp2_with (go_at_call 36; refine (H _).out.mono ?_; rintro e w1 ⟨rfl, h1⟩; obtain ⟨c1, f1⟩ := bcell h1; have z1 : w.heap.size < w1.heap.size := (by have := h1.size; simp at this; omega); have z2 : w.heap.size + 1 < w1.heap.size := (by have := h1.size; simp at this; omega))
  go_ret
  exact ⟨rfl, (((Below.refl _ _).alloc (Nat.le_refl _) _).alloc (by simp) _).trans (h1.mono (by simp; omega))⟩
end Go.Proofs.Ytnfedciblgapmaa
