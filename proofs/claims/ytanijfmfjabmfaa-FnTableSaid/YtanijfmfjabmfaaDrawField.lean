/- A drawn Field: what the draw leaves. Nothing that was there is written, but the source. -/
import Derived.Test.YtanijfmfjabmfaaAnyOps
import Derived.Test.YtanijfmfjabmfaaDrawMore
import Derived.Test.YtanijfmfjabmfaaBitsLow
namespace Go.Proofs.Ytanijfmfjabmfaa
open Go.RowKit
set_option linter.unusedVariables false

theorem Known.get {ops : Array Oper} {T : Nat → World → Value → Prop} {a0 : Act} {o : Oper} {a : Act} {w : World} (hK : Known ops T a0 o a w) (k s : Nat) {oj : Oper} (he : o.after.any (fun e => e.on == k && Region.binds .any e) = true) (hoj : ops[k]? = some oj) (hd : oj.dst = some s)
    (hs : Nat.ble (s + 1) a0.tmps.size = true) : T k w (a.eval (.tmp s)) := by
  obtain ⟨e, he1, he2⟩ := Array.any_eq_true'.1 he
  simp only [Bool.and_eq_true] at he2
  have hk : e.on = k := by simpa using he2.1
  subst hk
  exact hK.dep e he1 he2.2 oj s hoj hd (Nat.le_of_ble_eq_true hs)
def I64P (x : Int) : Prop := -9000000000 ≤ x ∧ x ≤ 9000000000
/-- A row that holds a Field. -/
def FdRow (w : World) (k : Nat) : Prop := ∃ (x y : Int) (g : Bool), w.heap[k]? = some (.cells #[.int .i64 x, .int .i64 y, .bool g] 77 (0, 0)) ∧ I64P x ∧ I64P y
theorem FdRow.no : ∀ w k, FdRow w k → ∀ row, w.heap[k]? ≠ some (.cells row 2 (0, 0)) := by
  rintro w k ⟨x, y, g, h, _⟩ row h2
  rw [h] at h2
  have := Option.some.inj h2
  simp at this
theorem FdRow.kept {S : Nat} {w w' : World} {k : Nat} (hR : RStep S FdRow w w') (hk : k < w.heap.size) (hne : k ≠ S) (h : FdRow w k) : FdRow w' k := by
  rcases hR.2 k hk hne with q | ⟨_, q⟩
  · unfold FdRow at *
    rw [q]
    exact h
  · exact q
/-- What holds of the world in the midst of the region. -/
structure CF (w : World) (S : Nat) (a : Option Addr) (len cap : Nat) (zs : List Int) (u : World) (W : World) : Prop where
  dr : Dr w S a len cap zs W
  grown : u.grownBy W (some S)
  out : FdRow W u.heap.size
  lt : u.heap.size < W.heap.size
  ne : u.heap.size ≠ S
  lo : w.heap.size ≤ u.heap.size
/-- Three cells of a row of the draw's own written. -/
def set3 (W : World) (B : Nat) (x y : Int) (g : Bool) : World := ((W.setCell ⟨B, 0, none⟩ (.int .i64 x)).setCell ⟨B, 1, none⟩ (.int .i64 y)).setCell ⟨B, 2, none⟩ (.bool g)
theorem set_other (W : World) {B k : Nat} (h : k ≠ B) (o : Nat) (v : Value) : (W.setCell ⟨B, o, none⟩ v).heap[k]? = W.heap[k]? := heap_setCell_other W ⟨B, o, none⟩ k v (fun e => h (by simp [e]))
theorem set3_other (W : World) {B k : Nat} (h : k ≠ B) (x y : Int) (g : Bool) : (set3 W B x y g).heap[k]? = W.heap[k]? := by
  unfold set3
  rw [set_other _ h, set_other _ h, set_other _ h]
theorem set3_size (W : World) (B : Nat) (x y : Int) (g : Bool) : (set3 W B x y g).heap.size = W.heap.size := by simp [set3]
theorem CF.set3 {w : World} {S : Nat} {a : Option Addr} {len cap : Nat} {zs : List Int} {u W : World} (h : CF w S a len cap zs u W) {B : Nat} (hB : B ≠ S) (hu : u.heap.size < B) (hl : B < W.heap.size) (x y : Int) (g : Bool) : CF w S a len cap zs u (set3 W B x y g) := by
  have hw : w.heap.size ≤ B := by have := h.lo; omega
  refine ⟨((h.dr.set (p := ⟨B, 0, none⟩) hB hw _).set (p := ⟨B, 1, none⟩) hB hw _).set (p := ⟨B, 2, none⟩) hB hw _, ?_, ?_, by rw [set3_size]; exact h.lt, h.ne, h.lo⟩
  · exact ⟨h.grown.os, h.grown.tape, h.grown.output, by rw [set3_size]; exact h.grown.size, fun k hk hne => (set3_other W (by omega) x y g).trans (h.grown.block k hk hne)⟩
  · unfold FdRow
    rw [set3_other W (by omega)]
    exact h.out
theorem RStep.set3 {S : Nat} {W : World} {B : Nat} (hB : B ≠ S) {x y : Int} {g : Bool} (h1 : FdRow W B) (h2 : FdRow (set3 W B x y g) B) : RStep S FdRow W (set3 W B x y g) := by
  refine ⟨Nat.le_of_eq (set3_size W B x y g).symm, fun k hk hne => ?_⟩
  by_cases h : k = B
  · subst h; exact .inr ⟨h1, h2⟩
  · exact .inl (set3_other W h x y g)
/-- What is said of the world at the end of a draw that began in u. -/
structure Fin3 (w : World) (S : Nat) (a : Option Addr) (len cap : Nat) (zs : List Int) (u : World) (W : World) : Prop where
  dr : Dr w S a len cap zs W
  grown : u.grownBy W (some S)
  lo : w.heap.size ≤ u.heap.size
theorem Fin3.set {w : World} {S : Nat} {a : Option Addr} {len cap : Nat} {zs : List Int} {u W : World} (h : Fin3 w S a len cap zs u W) {p : Addr} (hS : p.block ≠ S) (hu : u.heap.size ≤ p.block) (v : Value) : Fin3 w S a len cap zs u (W.setCell p v) := by
  refine ⟨h.dr.set hS (Nat.le_trans h.lo hu) v, ⟨h.grown.os, h.grown.tape, h.grown.output, by have := h.grown.size; simpa [World.setCell] using this, fun k hk hne => ?_⟩, h.lo⟩
  rw [heap_setCell_other W p k v (fun e => by omega)]
  exact h.grown.block k hk hne
theorem CF.fin {w : World} {S : Nat} {a : Option Addr} {len cap : Nat} {zs : List Int} {u W : World} (h : CF w S a len cap zs u W) : Fin3 w S a len cap zs u W := ⟨h.dr, h.grown, h.lo⟩
theorem CF.on {w : World} {S : Nat} {a : Option Addr} {len cap : Nat} {zs : List Int} {u W W' : World} (h : CF w S a len cap zs u W) (hd : Dr w S a len cap zs W') (hg : W.grownBy W' (some S)) : CF w S a len cap zs u W' :=
  ⟨hd, grownBy_trans h.grown hg, h.out.kept (RStep.grown hg) h.lt h.ne, Nat.lt_of_lt_of_le h.lt hg.size, h.ne, h.lo⟩
def TF (u : World) (S : Nat) : Nat → World → Value → Prop
  | 1, _, v => IsI v
  | 3, _, v => ∃ x : Int, v = .int .i64 x ∧ 0 ≤ x ∧ x ≤ 40
  | 4, _, v => ∃ x : Int, v = .int .i64 x ∧ 0 ≤ x ∧ x ≤ 41
  | 5, w, v => LitAt 2 S 9 0 41 w v
  | 7, _, v => ∃ k : Nat, v = .int .i64 (k : Int) ∧ k < 9
  | 8, w, v => PickAt 2 S 0 41 w v
  | 9, _, v => IsI v
  | 11, _, v => ∃ g, v = .bool g
  | 12, _, v => ∃ (x y : Int) (g : Bool), v = .agg #[.int .i64 x, .int .i64 y, .bool g] ∧ I64P x ∧ I64P y
  | 13, w, v => ∃ B, v = .pointer (some ⟨B, 0, none⟩) ∧ B ≠ S ∧ u.heap.size < B ∧ B < w.heap.size ∧ FdRow w B
  | 14, _, _ => True
  | _, _, v => v = .pointer (some ⟨S, 0, none⟩)
theorem TF.kept {u : World} {S : Nat} : ∀ j w w' v, RStep S FdRow w w' → TF u S j w v → TF u S j w' v
  | 5, _, _, _, hR, h => LitAt.kept FdRow.no hR h
  | 8, _, _, _, hR, h => PickAt.kept FdRow.no hR h
  | 13, _, _, _, hR, ⟨B, e, h1, h2, h3, h4⟩ => ⟨B, e, h1, h2, Nat.lt_of_lt_of_le h3 hR.1, h4.kept hR h3 h1⟩
  | 0, _, _, _, _, h | 1, _, _, _, _, h | 2, _, _, _, _, h | 3, _, _, _, _, h | 4, _, _, _, _, h | 6, _, _, _, _, h | 7, _, _, _, _, h | 9, _, _, _, _, h | 10, _, _, _, _, h | 11, _, _, _, _, h | 12, _, _, _, _, h | 14, _, _, _, _, h => h
  | _ + 15, _, _, _, _, h => h
section
variable {w u u' : World} {S : Nat} {a : Option Addr} {len cap : Nat} {zs : List Int}
/-- A drawn Field. -/
def NextFd (w : World) (S : Nat) (a : Option Addr) (len cap : Nat) (zs : List Int) (u : World) (e : Ending) (u' : World) : Prop :=
  ∃ (x y : Int) (g : Bool), e = .returned (fdV x y g) ∧ I64P x ∧ I64P y ∧ Dr w S a len cap zs u' ∧ u.grownBy u' (some S)
end
end Go.Proofs.Ytanijfmfjabmfaa
