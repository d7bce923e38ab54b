/- What the laws' own toId and toCan answer: the same fields. Nothing that was there is written. -/
import Derived.Test.YtioldepgoodipaaGreatOpen
namespace Go.Proofs.YtioldepgoodipaaGreat
open Go.RowKit
set_option linter.unusedVariables false
set_option maxHeartbeats 1000000 in
theorem toCan_any (n : Int) (s : ByteArray) (w : World) :
    Calls Tryz.prog 21 #[.agg #[.int .i64 n, .string s]] w fun e w' => e = .returned (.agg #[.int .i64 n, .string s]) ∧ Below w.heap.size w w' := by
  go_enter Tryz.func21, Tryz.ntmps21
  go_wp2
  exact bodyPost_ret (v := .agg #[.int .i64 n, .string s]) (by simp [results, Tryz.results21, go_sem]) rfl ⟨rfl, (((Below.refl _ _).alloc (Nat.le_refl _) _).alloc (by simp) _).alloc (by simp; omega) _⟩
set_option maxHeartbeats 1000000 in
theorem eqCan_same (n : Int) (s : ByteArray) (w : World) :
    Calls Tryz.prog 173 #[.agg #[.int .i64 n, .string s], .agg #[.int .i64 n, .string s]] w fun e w' => e = .returned (.bool true) ∧ Below w.heap.size w w' := by
  go_enter Tryz.func173, Tryz.ntmps173
  go_wp2
  go_ret
  exact ⟨rfl, ((Below.refl _ _).alloc (Nat.le_refl _) _).alloc (by simp) _⟩
set_option maxHeartbeats 1000000 in
theorem szCan_any (n : Int) (s : ByteArray) (m : Int) (w : World) (h0 : 0 ≤ m) (h1 : m ≤ 1048576) (hs : s.size ≤ maxLen) :
    Calls Tryz.prog 19 #[.agg #[.int .i64 n, .string s], .int .i64 m] w fun e w' => e = .returned (.int .i64 (if m - s.size < 0 then -1 else m - s.size)) ∧ Below w.heap.size w w' := by
  unfold maxLen at hs
  by_cases h : m - s.size < 0
  · have hd : decide (m - (s.size : Int) < 0) = true := decide_eq_true h
    have hw : IntKind.i64.wrap (m - (s.size : Int)) = m - s.size := IntWalk.i64_in _ (by omega)
    rw [if_pos h]
    go_enter Tryz.func19, Tryz.ntmps19
    go_wp2
    go_ret
    exact ⟨rfl, (Below.refl _ _).alloc (Nat.le_refl _) _⟩
  · have hd : decide (m - (s.size : Int) < 0) = false := decide_eq_false h
    have hw : IntKind.i64.wrap (m - (s.size : Int)) = m - s.size := IntWalk.i64_in _ (by omega)
    rw [if_neg h]
    go_enter Tryz.func19, Tryz.ntmps19
    go_wp2
    go_ret
    exact ⟨rfl, (Below.refl _ _).alloc (Nat.le_refl _) _⟩
set_option maxHeartbeats 1000000 in
theorem toName_any (n : Nm) (w : World) :
    Calls Tryz.prog 92 #[nmV n] w fun e w' => e = .returned (nmV n) ∧ Below w.heap.size w w' := by
  obtain ⟨u, m, i, f, c, s, y, a⟩ := n
  unfold nmV
  dsimp only
  go_enter Tryz.func92, Tryz.ntmps92
  go_wp2
  exact bodyPost_ret (v := .agg #[.int .i64 u, .int .i64 m, .int .i64 i, .int .i64 f, .int .i64 c, .int .i64 s, .int .i64 y, .bool a]) (by simp [results, Tryz.results92, go_sem]) rfl ⟨rfl, (((Below.refl _ _).alloc (Nat.le_refl _) _).alloc (by simp) _).alloc (by simp; omega) _⟩
set_option maxHeartbeats 1000000 in
theorem eqName_same (n : Nm) (w : World) :
    Calls Tryz.prog 107 #[nmV n, nmV n] w fun e w' => e = .returned (.bool true) ∧ Below w.heap.size w w' := by
  obtain ⟨u, m, i, f, c, s, y, a⟩ := n
  unfold nmV
  dsimp only
  go_enter Tryz.func107, Tryz.ntmps107
  go_wp2
  go_ret
  exact ⟨rfl, ((Below.refl _ _).alloc (Nat.le_refl _) _).alloc (by simp) _⟩
end Go.Proofs.YtioldepgoodipaaGreat
