/- What an operation of a region in any order is to show: a value, a store, a call; rows of numbers that are laid down and picked from. -/
import Derived.Test.YtpolpkheaibonaaAnyOrd
import Derived.BigCall
import Derived.BigRegion
namespace Go.Proofs.Ytpolpkheaibonaa
open Go.RowKit
set_option linter.unusedVariables false

section
variable {P : Program} {o : Oper} {a : Act} {w : World} {K : Act → World → Prop} {Q : Exit → Act → World → Prop}
theorem ob_value {v : Value} {w' : World} (h : (execOp a.eval o).run P w = .ok (.value v) w') (hk : K (a.put o.dst v) w') : o.wp P a w K Q := by
  unfold Oper.wp
  rw [h]
  exact hk
theorem ob_skip {w' : World} (h : (execOp a.eval o).run P w = .ok .skip w') (hk : K (a.put o.dst undef) w') : o.wp P a w K Q := by
  unfold Oper.wp
  rw [h]
  exact hk
theorem ob_move {x : Operand} (ho : o.op = .move x) (hk : K (a.put o.dst (a.eval x)) w) : o.wp P a w K Q := ob_value (BigFrame.run_move x ho w) hk
theorem ob_call {f : FuncId} {fn : Func} {xs : Array Operand} {ats : Array TypeId} {vals : Array Value} (ho : o.op = .call { callee := .value (.func f), args := xs, argTypes := ats })
    (hf : P.funcs[f]? = some fn) (hn : (fn.name == "runtime.NumGoroutine") = false) (hb : fn.body.isNone = false) (hv : xs.map a.eval = vals)
    (h : Calls P f vals w fun e w' => ∃ v, e = .returned v ∧ K (a.put o.dst v) w') : o.wp P a w K Q := by
  obtain ⟨dst, op, type, pos, after, guard⟩ := o
  simp only at ho
  subst ho
  unfold Oper.wp
  have hrun : (execOp a.eval { dst, op := .call { callee := .value (.func f), args := xs, argTypes := ats }, type := type, pos, after, guard }).run P w = .ok (.enter f vals) w := by
    rw [execOp_call_go, hv]
    have hn' : ¬ fn.name = "runtime.NumGoroutine" := by simpa using hn
    have hb' : ¬ fn.body = none := by
      intro q
      rw [q] at hb
      simp at hb
    unfold callFunc
    simp [hf, hn', hb']
  rw [hrun]
  exact h.mono fun e w' ⟨v, he, hk⟩ => by subst he; exact hk
end

/-- A number of some bounds, as a value. -/
def IsI (v : Value) : Prop := ∃ x : Int, v = .int .i64 x ∧ -9000000000 ≤ x ∧ x ≤ 9000000000
/-- A row of n numbers that lies elsewhere than block S. -/
def LitAt (T : TypeId) (S n : Nat) (lo hi : Int) (w : World) (v : Value) : Prop :=
  ∃ G row, v = .slice (some ⟨G, 0, none⟩) n n ∧ G ≠ S ∧ G < w.heap.size ∧ w.heap[G]? = some (.cells row T (0, 0)) ∧ ∀ k, k < n → ∃ x : Int, row[k]? = some (.int .i64 x) ∧ lo ≤ x ∧ x ≤ hi
/-- The address of one of its numbers. -/
def PickAt (T : TypeId) (S : Nat) (lo hi : Int) (w : World) (v : Value) : Prop :=
  ∃ G k row x, v = .pointer (some ⟨G, k, none⟩) ∧ G ≠ S ∧ G < w.heap.size ∧ w.heap[G]? = some (.cells row T (0, 0)) ∧ row[k]? = some (.int .i64 x) ∧ lo ≤ x ∧ x ≤ hi
theorem LitAt.pick {T : TypeId} {S n : Nat} {lo hi : Int} {w : World} {v : Value} (h : LitAt T S n lo hi w v) {k : Nat} (hk : k < n) :
    ∃ G, v = .slice (some ⟨G, 0, none⟩) n n ∧ PickAt T S lo hi w (.pointer (some ⟨G, k, none⟩)) := by
  obtain ⟨G, row, rfl, h1, h2, h3, h4⟩ := h
  obtain ⟨x, hx, hl, hh⟩ := h4 k hk
  exact ⟨G, rfl, G, k, row, x, rfl, h1, h2, h3, hx, hl, hh⟩
theorem PickAt.cell {T : TypeId} {S : Nat} {lo hi : Int} {w : World} {v : Value} (h : PickAt T S lo hi w v) : ∃ p x, v = .pointer (some p) ∧ w.cell? p = some (.int .i64 x) ∧ lo ≤ x ∧ x ≤ hi := by
  obtain ⟨G, k, row, x, rfl, h1, h2, h3, h4, h5, h6⟩ := h
  exact ⟨⟨G, k, none⟩, x, rfl, (cell_of_row w G k row T (0, 0) h3).trans h4, h5, h6⟩

/-- What a region leaves that writes block S, and besides rows of which that is said alone. -/
def RStep (S : Nat) (F : World → Nat → Prop) (w w' : World) : Prop := w.heap.size ≤ w'.heap.size ∧ ∀ k, k < w.heap.size → k ≠ S → w'.heap[k]? = w.heap[k]? ∨ (F w k ∧ F w' k)
theorem RStep.grown {S : Nat} {F : World → Nat → Prop} {w w' : World} (h : w.grownBy w' (some S)) : RStep S F w w' :=
  ⟨h.size, fun k hk hne => .inl (h.block k hk fun e => hne (by simpa using e))⟩
theorem RStep.refl (S : Nat) (F : World → Nat → Prop) (w : World) : RStep S F w w := ⟨Nat.le_refl _, fun _ _ _ => .inl rfl⟩
theorem LitAt.kept {T : TypeId} {S n : Nat} {lo hi : Int} {F : World → Nat → Prop} {w w' : World} {v : Value} (hF : ∀ w k, F w k → ∀ row, w.heap[k]? ≠ some (.cells row T (0, 0))) (hR : RStep S F w w') (h : LitAt T S n lo hi w v) : LitAt T S n lo hi w' v := by
  obtain ⟨G, row, e, h1, h2, h3, h4⟩ := h
  refine ⟨G, row, e, h1, Nat.lt_of_lt_of_le h2 hR.1, ?_, h4⟩
  rcases hR.2 G h2 h1 with q | ⟨q, _⟩
  · rw [q]; exact h3
  · exact absurd h3 (hF w G q row)
theorem PickAt.kept {T : TypeId} {S : Nat} {lo hi : Int} {F : World → Nat → Prop} {w w' : World} {v : Value} (hF : ∀ w k, F w k → ∀ row, w.heap[k]? ≠ some (.cells row T (0, 0))) (hR : RStep S F w w') (h : PickAt T S lo hi w v) : PickAt T S lo hi w' v := by
  obtain ⟨G, k, row, x, e, h1, h2, h3, h4⟩ := h
  refine ⟨G, k, row, x, e, h1, Nat.lt_of_lt_of_le h2 hR.1, ?_, h4⟩
  rcases hR.2 G h2 h1 with q | ⟨q, _⟩
  · rw [q]; exact h3
  · exact absurd h3 (hF w G q row)
end Go.Proofs.Ytpolpkheaibonaa
