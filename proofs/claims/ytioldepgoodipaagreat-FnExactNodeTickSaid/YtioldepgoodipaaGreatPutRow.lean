/- Stores of a whole struct, and loads of one: the row behind it said by ONE fact on its block. -/
import Derived.Test.YtioldepgoodipaaGreatRowsAt
import Derived.Laws.Rows
namespace Go.Proofs.YtioldepgoodipaaGreat
open Go.RowKit
set_option linter.unusedVariables false

theorem Out.of_setRow (w : World) (g : Nat) (cs : Array Value) : Out g (g + 1) w (w.setRow g cs) :=
  ⟨rfl, rfl, rfl, by simp, fun k hk h => setRow_other w g k cs (by omega)⟩
/-- Below a block that is one of the call's own. -/
theorem Out.below1 {B g : Nat} {w0 w w' : World} (h : Out g (g + 1) w w') (hb : Below B w0 w) (hB : B ≤ g) (hs : B ≤ w.heap.size) : Below B w0 w' := h.below hb hB hs
/-- A struct is stored whole. -/
theorem wpList_put_row {P : Program} {ops : Array Oper} {rest : List Oper} {o : Oper} {a : Act} {w : World} {Q : Exit → Act → World → Prop} (hgd : o.guard = none) (ty : TypeId) (x y : Operand) (ho : o.op = .store ty x y)
    (hd : o.dst = none) (g : Nat) (cells : Array Value) (hx : a.eval x = .pointer (some ⟨g, 0, none⟩)) (hy : a.eval y = .agg cells)
    (t : TypeId) (old : Array Value) (hg : w.heap[g]? = some (.cells old t (0, 0))) (hi : (P.info? ty).map (·.size) = some cells.size)
    (hold : old.size = cells.size) (h1 : cells.toList.all (·.oneCell') = true)
    (h : ∀ w', w'.heap[g]? = some (.cells cells t (0, 0)) → Out g (g + 1) w w' → wpList P ops Q rest a w') : wpList P ops Q (o :: rest) a w :=
  wpList_store_row hgd ty x y ho g cells hx hy t old hg hi hold (Array.all_eq_true_iff_forall_mem.2 fun v hv => List.all_eq_true.1 h1 v (by simpa using hv)) (by
    rw [hd]
    exact h _ (setRow_heap w g old cells t (0, 0) hg) (Out.of_setRow w g cells))
/-- A block of the call's own that another store leaves alone. -/
theorem Out.row1 {g k : Nat} {w w' : World} {ob : Obj} (h : Out g (g + 1) w w') (hk : w.heap[k]? = some ob) (hne : k ≠ g) : w'.heap[k]? = some ob := by
  have hlt : k < w.heap.size := (Array.getElem?_eq_some_iff.1 hk).1
  exact (h.block k hlt (by omega)).trans hk
end Go.Proofs.YtioldepgoodipaaGreat
