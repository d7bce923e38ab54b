/- Cells that a drawn region loads, kept by its calls and by a store elsewhere. -/
import Derived.Test.YtmfnbbjhaolhgaaNews
namespace Go.Proofs.Ytmfnbbjhaolhgaa
open Go.RowKit
set_option linter.unusedVariables false

/-- Three cells are there; below B nothing has turned; there are M blocks. -/
def ThreeL (B : Nat) (w0 : World) (M : Nat) (p0 p1 p2 : Addr) (v0 v1 v2 : Value) (W : World) : Prop := (W.cell? p0 = some v0 ∧ W.cell? p1 = some v1 ∧ W.cell? p2 = some v2) ∧ Below B w0 W ∧ M ≤ W.heap.size
section
variable {B M : Nat} {w0 W W' : World} {p0 p1 p2 : Addr} {v0 v1 v2 : Value}
theorem threeL_first (h0 : W.cell? p0 = some v0) (h1 : W.cell? p1 = some v1) (h2 : W.cell? p2 = some v2) (hb : Below B w0 W) (hM : M ≤ W.heap.size) : ThreeL B w0 M p0 p1 p2 v0 v1 v2 W.drew := ⟨⟨h0, h1, h2⟩, hb.drew, hM⟩
theorem threeL_call (l0 : p0.block < M) (l1 : p1.block < M) (l2 : p2.block < M) (hB : B ≤ M) (h : ThreeL B w0 M p0 p1 p2 v0 v1 v2 W) (hb : Below W.heap.size W W') : ThreeL B w0 M p0 p1 p2 v0 v1 v2 W' :=
  ⟨⟨(hb.cell (Nat.lt_of_lt_of_le l0 h.2.2)).trans h.1.1, (hb.cell (Nat.lt_of_lt_of_le l1 h.2.2)).trans h.1.2.1, (hb.cell (Nat.lt_of_lt_of_le l2 h.2.2)).trans h.1.2.2⟩, h.2.1.trans (hb.mono (Nat.le_trans hB h.2.2)), Nat.le_trans h.2.2 hb.size⟩
theorem threeL_set {q : Addr} (n0 : p0.block ≠ q.block) (n1 : p1.block ≠ q.block) (n2 : p2.block ≠ q.block) (hq : B ≤ q.block) (h : ThreeL B w0 M p0 p1 p2 v0 v1 v2 W) (u : Value) : ThreeL B w0 M p0 p1 p2 v0 v1 v2 (W.setCell q u) :=
  ⟨⟨(World.cell?_of_block (Below.heap_setCell _ _ _ _ n0)).trans h.1.1, (World.cell?_of_block (Below.heap_setCell _ _ _ _ n1)).trans h.1.2.1, (World.cell?_of_block (Below.heap_setCell _ _ _ _ n2)).trans h.1.2.2⟩, h.2.1.setCell hq u, by simpa [World.setCell] using h.2.2⟩
theorem threeL_below (h : ThreeL B w0 M p0 p1 p2 v0 v1 v2 W) : Below B w0 W := h.2.1
theorem three_first (h0 : W.cell? p0 = some v0) (h1 : W.cell? p1 = some v1) (h2 : W.cell? p2 = some v2) (hb : Below B w0 W) (hM : M ≤ W.heap.size) : ((W.drew.cell? p0 = some v0 ∧ W.drew.cell? p1 = some v1 ∧ W.drew.cell? p2 = some v2) ∧ Below B w0 W.drew ∧ M ≤ W.drew.heap.size) := threeL_first h0 h1 h2 hb hM
theorem three_call (l0 : p0.block < M) (l1 : p1.block < M) (l2 : p2.block < M) (hB : B ≤ M) (h : ((W.cell? p0 = some v0 ∧ W.cell? p1 = some v1 ∧ W.cell? p2 = some v2) ∧ Below B w0 W ∧ M ≤ W.heap.size)) (hb : Below W.heap.size W W') : ((W'.cell? p0 = some v0 ∧ W'.cell? p1 = some v1 ∧ W'.cell? p2 = some v2) ∧ Below B w0 W' ∧ M ≤ W'.heap.size) := threeL_call l0 l1 l2 hB h hb
theorem three_set4 {q : Addr} {q1 q2 q3 : Addr} {u0 u1 u2 u3 : Value} (n0 : p0.block ≠ q.block) (n1 : p1.block ≠ q.block) (n2 : p2.block ≠ q.block) (hq : B ≤ q.block) (e1 : q1.block = q.block) (e2 : q2.block = q.block) (e3 : q3.block = q.block) (h : ((W.cell? p0 = some v0 ∧ W.cell? p1 = some v1 ∧ W.cell? p2 = some v2) ∧ Below B w0 W ∧ M ≤ W.heap.size)) :
    ((((((W.setCell q u0).setCell q1 u1).setCell q2 u2).setCell q3 u3).cell? p0 = some v0 ∧ ((((W.setCell q u0).setCell q1 u1).setCell q2 u2).setCell q3 u3).cell? p1 = some v1 ∧ ((((W.setCell q u0).setCell q1 u1).setCell q2 u2).setCell q3 u3).cell? p2 = some v2) ∧ Below B w0 ((((W.setCell q u0).setCell q1 u1).setCell q2 u2).setCell q3 u3) ∧ M ≤ ((((W.setCell q u0).setCell q1 u1).setCell q2 u2).setCell q3 u3).heap.size) :=
  threeL_set (by rw [e3]; exact n0) (by rw [e3]; exact n1) (by rw [e3]; exact n2) (by rw [e3]; exact hq) (threeL_set (by rw [e2]; exact n0) (by rw [e2]; exact n1) (by rw [e2]; exact n2) (by rw [e2]; exact hq) (threeL_set (by rw [e1]; exact n0) (by rw [e1]; exact n1) (by rw [e1]; exact n2) (by rw [e1]; exact hq) (threeL_set n0 n1 n2 hq h u0) u1) u2) u3
theorem three_grown {row : Option Nat} (l0 : p0.block < M) (l1 : p1.block < M) (l2 : p2.block < M) (hB : B ≤ M) (h : ((W.cell? p0 = some v0 ∧ W.cell? p1 = some v1 ∧ W.cell? p2 = some v2) ∧ Below B w0 W ∧ M ≤ W.heap.size)) (hg : W.grownBy W' row) (hr : ∀ k, row = some k → M ≤ k) : ((W'.cell? p0 = some v0 ∧ W'.cell? p1 = some v1 ∧ W'.cell? p2 = some v2) ∧ Below B w0 W' ∧ M ≤ W'.heap.size) :=
  have hb : Below M W W' := (Below.refl _ _).grown hg h.2.2 hr
  ⟨⟨(hb.cell l0).trans h.1.1, (hb.cell l1).trans h.1.2.1, (hb.cell l2).trans h.1.2.2⟩, h.2.1.trans (hb.mono hB), Nat.le_trans h.2.2 hb.size⟩
end
end Go.Proofs.Ytmfnbbjhaolhgaa
