/- Steps over facts on whole blocks: a box, an alloc, a load out of a block, a store into one, the world behind each named, and what lives in it. -/
import Derived.Test.YtioldepgoodipaaGreatPutRow
import Derived.Test.YtioldepgoodipaaGreatNums
import Derived.Deep.MidRow
import Derived.BigFrame
import Derived.Laws.NewFold
import Derived.Laws.Sem
namespace Go.Proofs.YtioldepgoodipaaGreat
open Go.RowKit
set_option linter.unusedVariables false

/-- A row with those cells from o on. -/
def setAll : Array Value → Nat → List Value → Array Value
  | cs, _, [] => cs
  | cs, o, v :: r => setAll (cs.setIfInBounds o v) (o + 1) r
theorem heap_setCells (g : Nat) (t : TypeId) : ∀ (vs : List Value) (w : World) (o : Nat) (cs : Array Value), w.heap[g]? = some (.cells cs t (0, 0)) → (w.setCells g o vs).heap[g]? = some (.cells (setAll cs o vs) t (0, 0))
  | [], _, _, _, h => h
  | v :: r, w, o, cs, h => heap_setCells g t r _ (o + 1) _ (Go.heap_setCell_same w g o cs t v h)
theorem out_setCells (g : Nat) : ∀ (vs : List Value) (w : World) (o : Nat), Out g (g + 1) w (w.setCells g o vs)
  | [], w, _ => Out.refl _ _ w
  | v :: r, w, o => ((Out.refl g (g + 1) w).setCell (p := ⟨g, o, none⟩) (Nat.le_refl _) (Nat.lt_succ_self _) v).trans (out_setCells g r _ (o + 1))
theorem size_setCells (g : Nat) : ∀ (vs : List Value) (w : World) (o : Nat), (w.setCells g o vs).heap.size = w.heap.size
  | [], w, _ => rfl
  | v :: r, w, o => (size_setCells g r _ (o + 1)).trans (by simp)
section
variable {P : Program} {ops : Array Oper} {rest : List Oper} {o : Oper} {a : Act} {w : World} {Q : Exit → Act → World → Prop}
theorem wpList_box_h (hgd : Region.wanted o (yielded ops a.tmps) = true) (e : TypeId) (x : Operand) (ho : o.op = .box e x) (cells : Array Value) (hx : (a.eval x).cells = cells)
    (h : ∀ w' R, w.heap.size = R → w'.heap[R]? = some (.cells cells e (0, 0)) → Below w.heap.size w w' → wpList P ops Q rest (a.put o.dst (.pointer (some ⟨R, 0, none⟩))) w') : wpList P ops Q (o :: rest) a w :=
  BigFrame.wpList_want hgd fun K hK => by
    unfold Oper.wp execOp
    have := hK _ _ (h (w.alloc (.cells cells e)) _ rfl (heap_alloc_new _ _) ((Below.refl _ _).alloc (Nat.le_refl _) _))
    simp only [ho, Sem.run_bind, Instr.box, newVar, newRow, hx, run_newObj_alloc, Sem.run_pure, Result.andThen_ok]
    exact this
theorem wpList_alloc_h (hgd : Region.wanted o (yielded ops a.tmps) = true) (e : TypeId) (ho : o.op = .alloc e) (z : Value) (hz : (P.info? e).map (·.zero) = some (some z)) (cells : Array Value) (hc : z.cells = cells)
    (h : ∀ w' R, w.heap.size = R → w'.heap[R]? = some (.cells cells e (0, 0)) → Below w.heap.size w w' → wpList P ops Q rest (a.put o.dst (.pointer (some ⟨R, 0, none⟩))) w') : wpList P ops Q (o :: rest) a w :=
  BigFrame.wpList_want hgd fun K hK => by
    unfold Oper.wp execOp
    have := hK _ _ (h (w.alloc (.cells cells e)) _ rfl (heap_alloc_new _ _) ((Below.refl _ _).alloc (Nat.le_refl _) _))
    cases hi : P.info? e with
    | none => simp [hi] at hz
    | some i =>
      have hz' : i.zero = some z := by simpa [hi] using hz
      simp [ho, Instr.alloc, zeroValue, typeInfo, hi, hz', newVar, newRow, hc, run_newObj_alloc, -run_newObj, Result.andThen_ok]
      exact this
/-- A store of one or more cells into a block that is said whole. -/
theorem wpList_put_at (hgd : Region.wanted o (yielded ops a.tmps) = true) (ty : TypeId) (x y : Operand) (ho : o.op = .store ty x y) (hd : o.dst = none) (g k : Nat) (hx : a.eval x = .pointer (some ⟨g, k, none⟩))
    (v : Value) (hy : a.eval y = v) (cells : Array Value) (hcs : v.cells = cells) (t : TypeId) (old new : Array Value) (hg : w.heap[g]? = some (.cells old t (0, 0))) (hi : (P.info? ty).map (·.size) = some cells.size)
    (hk0 : Nat.ble (k + cells.size) old.size = true) (h1 : cells.toList.all (·.oneCell') = true) (hnew : setAll old k cells.toList = new)
    (h : ∀ w', w'.heap[g]? = some (.cells new t (0, 0)) → Out g (g + 1) w w' → wpList P ops Q rest a w') : wpList P ops Q (o :: rest) a w :=
  BigFrame.wpList_want hgd fun K hK => by
    have hk : k + cells.size ≤ old.size := Nat.le_of_ble_eq_true hk0
    have ht : w.there g k cells.size := fun j hj => by
      refine ⟨?_, frozen_of_row w g (k + j) old t hg⟩
      rw [cell_of_row w g (k + j) old t (0, 0) hg, Array.getElem?_eq_getElem (by omega)]
      rfl
    have hrun := run_storeCells_cells (P := P) g k cells.toList 0 w (fun j hj => by simpa using (ht j (by simpa using hj)).1) (fun j hj => by simpa using (ht j (by simpa using hj)).2)
      (fun v hv => List.all_eq_true.1 h1 v hv)
    have hrun2 : (storeVar ty ⟨g, k, none⟩ v).run P w = .ok () (w.setCells g k cells.toList) := by
      cases hq : P.info? ty with
      | none => simp [hq] at hi
      | some i =>
        have hs : cells.size = i.size := by simp [hq] at hi; omega
        simp only [Nat.add_zero] at hrun
        simp [storeVar, sizeOf, typeInfo, hq, hcs, hs, hrun]
    unfold Oper.wp execOp
    simp only [ho, hx, hy, Instr.storeAt, Instr.sureAddr, Sem.run_bind, Sem.run_pure, Result.andThen_ok, hrun2]
    refine hK _ _ ?_
    rw [hd]
    exact h _ (hnew ▸ heap_setCells g t cells.toList w k old hg) (out_setCells g cells.toList w k)
/-- A load of a struct, or an array, out of a block that is said whole. -/
theorem wpList_load_at (hgd : Region.wanted o (yielded ops a.tmps) = true) (ty : TypeId) (x : Operand) (ho : o.op = .load ty x) (g k : Nat) (hx : a.eval x = .pointer (some ⟨g, k, none⟩)) (t : TypeId) (row : Array Value) (fr : Nat × Nat) (hg : w.heap[g]? = some (.cells row t fr))
    (cs : List Value) (hcs : (row.toList.drop k).take cs.length = cs) (d : TypeDesc) (hu : P.underlying ty = some d) (hd : d.isRow = true) (hi : (P.info? ty).map (·.size) = some cs.length)
    (h : wpList P ops Q rest (a.put o.dst (.agg cs.toArray)) w) : wpList P ops Q (o :: rest) a w :=
  BigFrame.wpList_want hgd fun _ hK => wp_load_mid ty x ho g k hx cs d (fun j v hv => by
    rw [cell_of_row w g (k + j) row t fr hg]
    have h1 : ((row.toList.drop k).take cs.length)[j]? = some v := by rw [hcs]; exact hv
    rw [List.getElem?_take] at h1
    split at h1
    · rw [List.getElem?_drop] at h1
      simpa using h1
    · cases h1) hu hd hi (hK _ _ h)
/-- A load of one cell. -/
theorem wpList_load_one (hgd : Region.wanted o (yielded ops a.tmps) = true) (ty : TypeId) (x : Operand) (ho : o.op = .load ty x) (g k : Nat) (hx : a.eval x = .pointer (some ⟨g, k, none⟩)) (t : TypeId) (row : Array Value) (fr : Nat × Nat) (hg : w.heap[g]? = some (.cells row t fr))
    (v : Value) (hv : row[k]? = some v) (d : TypeDesc) (hu : P.underlying ty = some d) (hd : d.isRow = false) (hi : (P.info? ty).map (·.size) = some 1)
    (h : wpList P ops Q rest (a.put o.dst v) w) : wpList P ops Q (o :: rest) a w :=
  BigFrame.wpList_want hgd fun K hK => by
    have hagg : (isAgg ty).run P w = .ok false w := by
      unfold isAgg
      rw [Sem.run_bind, run_underlying hu w]
      cases d <;> simp_all
    have hc : w.cell? ⟨g, k, none⟩ = some v := (cell_of_row w g k row t fr hg).trans hv
    have hrun : (loadVar ty ⟨g, k, none⟩).run P w = .ok v w := by
      simp [loadVar, Sem.run_bind, hagg, run_load, hc]
    unfold Oper.wp execOp
    simp only [ho, hx, Instr.loadAt, Instr.sureAddr, Sem.run_bind, Sem.run_pure, Result.andThen_ok, hrun]
    exact hK _ _ h
end
/-- What lives while a function runs: below w's own blocks nothing has turned; the variables rs hold what they hold; the rows ns hold their numbers, in blocks of the function's own. -/
structure Lv (w W : World) (rs : List (Nat × Array Value × TypeId)) (ns : List (Nat × Nat × Option Addr × List Int)) : Prop where
  below : Below w.heap.size w W
  row : ∀ r ∈ rs, w.heap.size ≤ r.1 ∧ W.heap[r.1]? = some (.cells r.2.1 r.2.2 (0, 0))
  new : ∀ n ∈ ns, (w.heap.size ≤ n.1 ∧ n.1 ≤ n.2.1 ∧ n.2.1 ≤ W.heap.size) ∧ NumsNew n.1 n.2.1 W n.2.2.1 n.2.2.2
section
variable {w W W' : World} {rs rs' : List (Nat × Array Value × TypeId)} {ns ns' : List (Nat × Nat × Option Addr × List Int)}
theorem Lv.first (w : World) : Lv w w [] [] := ⟨Below.refl _ _, fun r hr => (by cases hr), fun n hn => (by cases hn)⟩
theorem Lv.kept (h : Lv w W rs ns) (hb : Below W.heap.size W W') : Lv w W' rs ns :=
  ⟨h.below.trans (hb.mono h.below.size), fun r hr => ⟨(h.row r hr).1, (hb.block _ (Array.getElem?_eq_some_iff.1 (h.row r hr).2).1).trans (h.row r hr).2⟩, fun n hn => ⟨⟨(h.new n hn).1.1, (h.new n hn).1.2.1, Nat.le_trans (h.new n hn).1.2.2 hb.size⟩, (h.new n hn).2.kept hb⟩⟩
theorem Lv.addRow (h : Lv w W rs ns) {g : Nat} {cs : Array Value} {T : TypeId} (hg : W.heap[g]? = some (.cells cs T (0, 0))) (hle : w.heap.size ≤ g) : Lv w W ((g, cs, T) :: rs) ns :=
  ⟨h.below, fun r hr => by
    rcases List.mem_cons.1 hr with rfl | hr
    · exact ⟨hle, hg⟩
    · exact h.row r hr, h.new⟩
/-- A box more. -/
theorem Lv.box (h : Lv w W rs ns) {R : Nat} {cs : Array Value} {T : TypeId} (hR : W.heap.size = R) (hg : W'.heap[R]? = some (.cells cs T (0, 0))) (hb : Below W.heap.size W W') : Lv w W' ((R, cs, T) :: rs) ns :=
  (h.kept hb).addRow hg (hR ▸ h.below.size)
theorem Lv.addNew (h : Lv w W rs ns) {lo hi : Nat} {a : Option Addr} {l : List Int} (hn : NumsNew lo hi W a l) (hle : w.heap.size ≤ lo) (hlh : lo ≤ hi) (hhi : hi ≤ W.heap.size) : Lv w W rs ((lo, hi, a, l) :: ns) :=
  ⟨h.below, h.row, fun n h' => by
    rcases List.mem_cons.1 h' with rfl | h'
    · exact ⟨⟨hle, hlh, hhi⟩, hn⟩
    · exact h.new n h'⟩
theorem Lv.less (h : Lv w W rs ns) (h1 : ∀ r ∈ rs', r ∈ rs) (h2 : ∀ n ∈ ns', n ∈ ns) : Lv w W rs' ns' := ⟨h.below, fun r hr => h.row r (h1 r hr), fun n hn => h.new n (h2 n hn)⟩
theorem Lv.get (h : Lv w W rs ns) {g : Nat} {cs : Array Value} {T : TypeId} (hm : (g, cs, T) ∈ rs) : W.heap[g]? = some (.cells cs T (0, 0)) := (h.row _ hm).2
theorem Lv.lt (h : Lv w W rs ns) {g : Nat} {cs : Array Value} {T : TypeId} (hm : (g, cs, T) ∈ rs) : g < W.heap.size := (Array.getElem?_eq_some_iff.1 (h.row _ hm).2).1
theorem Lv.at (h : Lv w W rs ns) {lo hi : Nat} {a : Option Addr} {l : List Int} (hm : (lo, hi, a, l) ∈ ns) : NumsNew lo hi W a l := (h.new _ hm).2
/-- What has turned lies from lo on and below hi. -/
theorem Lv.out {lo hi : Nat} (h : Lv w W rs ns) (ho : Out lo hi W W') (hlo : w.heap.size ≤ lo) (hr : ∀ r ∈ rs, r.1 < lo ∨ hi ≤ r.1) (hn : ∀ n ∈ ns, n.2.1 ≤ lo ∨ hi ≤ n.1) : Lv w W' rs ns :=
  ⟨ho.below h.below hlo h.below.size, fun r h' => ⟨(h.row r h').1, (ho.block _ (Array.getElem?_eq_some_iff.1 (h.row r h').2).1 (hr r h')).trans (h.row r h').2⟩, fun n h' => ⟨⟨(h.new n h').1.1, (h.new n h').1.2.1, Nat.le_trans (h.new n h').1.2.2 ho.size⟩, (h.new n h').2.out ho (hn n h')⟩⟩
/-- One of the variables is stored into. -/
theorem Lv.put (h : Lv w W rs ns) (i : Nat) {g : Nat} {old new : Array Value} {T : TypeId} (hm : rs[i]? = some (g, old, T)) (hg : W'.heap[g]? = some (.cells new T (0, 0))) (ho : Out g (g + 1) W W')
    (h1 : ∀ r ∈ rs.eraseIdx i, r.1 ≠ g) (h2 : ∀ n ∈ ns, n.2.1 ≤ g ∨ g + 1 ≤ n.1) (hrs : rs' = rs.set i (g, new, T)) : Lv w W' rs' ns := by
  have hin := h.row _ (List.mem_of_getElem? hm)
  refine ⟨ho.below h.below hin.1 h.below.size, fun r hr => ?_, fun n hn => ⟨⟨(h.new n hn).1.1, (h.new n hn).1.2.1, Nat.le_trans (h.new n hn).1.2.2 ho.size⟩, (h.new n hn).2.out ho (h2 n hn)⟩⟩
  subst hrs
  obtain ⟨j, hj⟩ := List.getElem?_of_mem hr
  rw [List.getElem?_set] at hj
  split at hj
  · rename_i hij
    split at hj
    · cases hj
      exact ⟨hin.1, hg⟩
    · cases hj
  · rename_i hij
    have hr' : r ∈ rs := List.mem_of_getElem? hj
    have hne : r.1 ≠ g := h1 r (by
      rw [List.mem_eraseIdx_iff_getElem?]
      exact ⟨j, fun e => hij e.symm, hj⟩)
    refine ⟨(h.row r hr').1, ?_⟩
    exact (ho.block _ (Array.getElem?_eq_some_iff.1 (h.row r hr').2).1 (by omega)).trans (h.row r hr').2
/-- The numbers of one row are written. -/
theorem Lv.mark (h : Lv w W rs ns) (i : Nat) {lo hi : Nat} {a : Option Addr} {l l' : List Int} (hm : ns[i]? = some (lo, hi, a, l)) (ho : Out lo hi W W') (hn : NumsNew lo hi W' a l')
    (hr : ∀ r ∈ rs, r.1 < lo ∨ hi ≤ r.1) (h2 : ∀ n ∈ ns.eraseIdx i, n.2.1 ≤ lo ∨ hi ≤ n.1) (hns : ns' = ns.set i (lo, hi, a, l')) : Lv w W' rs ns' := by
  have hin := h.new _ (List.mem_of_getElem? hm)
  refine ⟨ho.below h.below hin.1.1 h.below.size, fun r h' => ⟨(h.row r h').1, (ho.block _ (Array.getElem?_eq_some_iff.1 (h.row r h').2).1 (hr r h')).trans (h.row r h').2⟩, fun n hn' => ?_⟩
  subst hns
  obtain ⟨j, hj⟩ := List.getElem?_of_mem hn'
  rw [List.getElem?_set] at hj
  split at hj
  · split at hj
    · cases hj
      exact ⟨⟨hin.1.1, hin.1.2.1, Nat.le_trans hin.1.2.2 ho.size⟩, hn⟩
    · cases hj
  · rename_i hij
    have hn2 : n ∈ ns := List.mem_of_getElem? hj
    have hne := h2 n (by
      rw [List.mem_eraseIdx_iff_getElem?]
      exact ⟨j, fun e => hij e.symm, hj⟩)
    exact ⟨⟨(h.new n hn2).1.1, (h.new n hn2).1.2.1, Nat.le_trans (h.new n hn2).1.2.2 ho.size⟩, (h.new n hn2).2.out ho hne⟩
theorem Out.below0 {w w' : World} (h : Out 0 0 w w') : Below w.heap.size w w' := ⟨h.os, h.tape, h.output, h.size, fun k hk => h.block k hk (.inr (Nat.zero_le _))⟩
/-- Numbers that a call made, in memory of its own. -/
theorem Lv.made (h : Lv w W rs ns) {lo hi : Nat} {a : Option Addr} {l : List Int} (hlo : W.heap.size = lo) (hhi : W'.heap.size = hi) (hb : Below W.heap.size W W') (hn : NumsNew W.heap.size W'.heap.size W' a l) : Lv w W' rs ((lo, hi, a, l) :: ns) := by
  subst hlo hhi
  exact (h.kept hb).addNew hn h.below.size hb.size (Nat.le_refl _)
theorem Lv.hi (h : Lv w W rs ns) {lo hi : Nat} {a : Option Addr} {l : List Int} (hm : (lo, hi, a, l) ∈ ns) : lo ≤ hi ∧ hi ≤ W.heap.size := (h.new _ hm).1.2
theorem Lv.all {w W : World} {rs : List (Nat × Array Value × TypeId)} {ns : List (Nat × Nat × Option Addr × List Int)} (h : Lv w W rs ns) {lo hi : Nat} {a : Option Addr} {l : List Int} (hm : (lo, hi, a, l) ∈ ns) : NumsNew w.heap.size W.heap.size W a l :=
  (h.at hm).wide (h.new _ hm).1.1 (h.new _ hm).1.2.2
theorem Lv.numsOf (h : Lv w W rs ns) {lo hi : Nat} {a : Option Addr} {l : List Int} (hm : (lo, hi, a, l) ∈ ns) : NumsIn W a l := (h.at hm).nums
end
end Go.Proofs.YtioldepgoodipaaGreat
