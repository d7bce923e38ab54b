/- Small laws for draws that make and write variables of their own. -/
import Derived.Test.YtdhmcepnmbchkaaDraw
namespace Go.Proofs.Ytdhmcepnmbchkaa
open Go.RowKit
set_option linter.unusedVariables false

theorem pick_cell {w w1 : World} {S : Nat} {T : TypeId} (L : List Int) (hS : S < w.heap.size) (hg : (w.alloc (.cells (L.map (Value.int .i64)).toArray T)).grownBy w1 (some S)) (j : Nat) (hj : j < L.length) :
    ∃ x, w1.cell? ⟨w.heap.size, j, none⟩ = some (.int .i64 x) ∧ x ∈ L := by
  have hb := (hg.block w.heap.size (by simp) (fun e => by have := Option.some.inj e; omega)).trans (heap_alloc_new w _)
  refine ⟨L[j], ?_, List.getElem_mem hj⟩
  rw [cell_of_row w1 w.heap.size j _ _ _ hb]
  simp [List.getElem?_eq_getElem hj]
/-- A cell of another block than the source is as it was. -/
theorem far_cell {u u' : World} {S : Nat} (hg : u.grownBy u' (some S)) {g : Nat} (hlt : g < u.heap.size) (hne : g ≠ S) (i : Nat) : u'.cell? ⟨g, i, none⟩ = u.cell? ⟨g, i, none⟩ ∧ u'.frozen? ⟨g, i, none⟩ = u.frozen? ⟨g, i, none⟩ :=
  ⟨World.cell?_of_block (hg.block g hlt fun e => hne (Option.some.inj e)), World.frozen?_of_block (hg.block g hlt fun e => hne (Option.some.inj e))⟩
theorem grownBy_new {w w' : World} {r : Option Nat} (h : w.grownBy w' r) {p : Addr} (hp : w.heap.size ≤ p.block) (v : Value) : w.grownBy (w'.setCell p v) r :=
  ⟨h.os, h.tape, h.output, by simpa [World.setCell] using h.size, fun k hk hne => by
    rw [heap_setCell_other w' p k v (by omega)]
    exact h.block k hk hne⟩
theorem grownBy_made {w w' w'' : World} {r : Option Nat} (h : w.grownBy w' r) (hb : Below w'.heap.size w' w'') : w.grownBy w'' r :=
  ⟨hb.os.trans h.os, hb.tape.trans h.tape, hb.output.trans h.output, Nat.le_trans h.size hb.size, fun k hk hne => (hb.block k (Nat.lt_of_lt_of_le hk h.size)).trans (h.block k hk hne)⟩
section
variable {w u u' : World} {S : Nat} {a : Option Addr} {len cap : Nat} {zs : List Int}
theorem Dr.set (h : Dr w S a len cap zs u) {p : Addr} (hp : p.block ≠ S) (hw : w.heap.size ≤ p.block) (v : Value) : Dr w S a len cap zs (u.setCell p v) :=
  ⟨h.src.of_heap (heap_setCell_other u p S v (fun e => hp e.symm)), h.row.kept (B := w.heap.size) ((Below.refl _ _).setCell hw _) h.args, h.below.setCell hw _, h.lo, h.args, h.few⟩
end
end Go.Proofs.Ytdhmcepnmbchkaa
