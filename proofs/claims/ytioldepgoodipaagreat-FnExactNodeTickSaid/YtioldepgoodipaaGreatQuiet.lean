/- Loads in a walk of a region whose operations yield the same in whatever order: a struct's cells, one cell. -/
import Derived.Test.YtioldepgoodipaaGreatRs
import Derived.BigQuiet
import Derived.Deep.RegionHeld3
namespace Go.Proofs.YtioldepgoodipaaGreat
open Go.RowKit
set_option linter.unusedVariables false

section
variable {P : Program} {C : World → Prop} {W : World}
/-- A load of a struct whose cells are there, in a quiet walk. -/
theorem quietLoadCells {o : Oper} {a : Act} (ty : TypeId) (x : Operand) (ho : o.op = .load ty x) (g k : Nat) (hx : a.eval x = .pointer (some ⟨g, k, none⟩))
    (cs : List Value) (hcs : ∀ (j : Nat) v, cs[j]? = some v → W.cell? ⟨g, k + j, none⟩ = some v) (d : TypeDesc) (hu : P.underlying ty = some d) (hd : d.isRow = true) (hi : (P.info? ty).map (·.size) = some cs.length) :
    o.quietAt P a C W (.agg cs.toArray) := by
  unfold Oper.quietAt execOp
  simp only [ho, hx, Instr.loadAt, Instr.sureAddr, Sem.run_bind, Sem.run_pure, Result.andThen_ok, run_loadVar_mid W g k ty cs d hcs hu hd hi]
  exact ⟨rfl, rfl⟩
/-- A load of one cell. -/
theorem quietLoadOne {o : Oper} {a : Act} (ty : TypeId) (x : Operand) (ho : o.op = .load ty x) (g k : Nat) (hx : a.eval x = .pointer (some ⟨g, k, none⟩))
    (v : Value) (hv : W.cell? ⟨g, k, none⟩ = some v) (d : TypeDesc) (hu : P.underlying ty = some d) (hd : d.isRow = false) :
    o.quietAt P a C W v := by
  have hagg : (isAgg ty).run P W = .ok false W := by
    unfold isAgg
    rw [Sem.run_bind, run_underlying hu W]
    cases d <;> simp_all
  have hrun : (loadVar ty ⟨g, k, none⟩).run P W = .ok v W := by
    simp [loadVar, Sem.run_bind, hagg, run_load, hv]
  unfold Oper.quietAt execOp
  simp only [ho, hx, Instr.loadAt, Instr.sureAddr, Sem.run_bind, Sem.run_pure, Result.andThen_ok, hrun]
  exact ⟨rfl, rfl⟩
/-- The cells of a block that is said whole, wherever that has only grown. -/
theorem rowCells {W0 : World} {g : Nat} {row : Array Value} {t : TypeId} (hg : W0.heap[g]? = some (.cells row t (0, 0))) (hW : Below W0.heap.size W0 W) (k : Nat) (v : Value) (hv : row[k]? = some v) : W.cell? ⟨g, k, none⟩ = some v :=
  (hW.cell (p := ⟨g, k, none⟩) (Array.getElem?_eq_some_iff.1 hg).1).trans ((cell_of_row W0 g k row t (0, 0) hg).trans hv)
theorem grownCells {W0 : World} {g k : Nat} {cs : List Value} (hlt : g < W0.heap.size) (h : ∀ (j : Nat) v, cs[j]? = some v → W0.cell? ⟨g, k + j, none⟩ = some v) (hW : Below W0.heap.size W0 W) : ∀ (j : Nat) v, cs[j]? = some v → W.cell? ⟨g, k + j, none⟩ = some v :=
  fun j v hv => (hW.cell (p := ⟨g, _, none⟩) hlt).trans (h j v hv)
end
theorem rowAll {W0 W : World} {g : Nat} {row : List Value} {t : TypeId} (hg : W0.heap[g]? = some (.cells row.toArray t (0, 0))) (hW : Below W0.heap.size W0 W) : ∀ (j : Nat) v, row[j]? = some v → W.cell? ⟨g, 0 + j, none⟩ = some v :=
  fun j v hv => rowCells hg hW (0 + j) v (by rw [Nat.zero_add]; simpa using hv)
section
variable {P : Program} {ops : Array Oper} {rest : List Oper} {o : Oper} {a : Act} {w : World} {Q : Exit → Act → World → Prop}
/-- A load of one cell that is there. -/
theorem wpList_load_one1 (hgd : Region.wanted o (yielded ops a.tmps) = true) (ty : TypeId) (x : Operand) (ho : o.op = .load ty x) (g k : Nat) (hx : a.eval x = .pointer (some ⟨g, k, none⟩))
    (v : Value) (hv : w.cell? ⟨g, k, none⟩ = some v) (d : TypeDesc) (hu : P.underlying ty = some d) (hd : d.isRow = false)
    (h : wpList P ops Q rest (a.put o.dst v) w) : wpList P ops Q (o :: rest) a w :=
  BigFrame.wpList_want hgd fun _ hK => by
    have hagg : (isAgg ty).run P w = .ok false w := by
      unfold isAgg
      rw [Sem.run_bind, run_underlying hu w]
      cases d <;> simp_all
    have hrun : (loadVar ty ⟨g, k, none⟩).run P w = .ok v w := by
      simp [loadVar, Sem.run_bind, hagg, run_load, hv]
    unfold Oper.wp execOp
    simp only [ho, hx, Instr.loadAt, Instr.sureAddr, Sem.run_bind, Sem.run_pure, Result.andThen_ok, hrun]
    exact hK _ _ h
end
end Go.Proofs.YtioldepgoodipaaGreat
