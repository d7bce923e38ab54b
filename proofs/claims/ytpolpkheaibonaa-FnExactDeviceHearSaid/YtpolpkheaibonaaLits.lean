/- An empty literal, and an append to it, as operations of a region in any order; numbers of a row of items. -/
import Derived.Test.YtpolpkheaibonaaRsOwn
import Derived.Test.YtpolpkheaibonaaAnyOps
import Derived.Deep.AppendSrc
namespace Go.Proofs.Ytpolpkheaibonaa
open Go.RowKit
set_option linter.unusedVariables false

/-- A number, as an item of one cell. -/
def nC (x : Int) : List Value := [.int .i64 x]
theorem nC_len (x : Int) : (nC x).length = 1 := rfl
theorem nC_one (x : Int) : ∀ u ∈ nC x, u.oneCell' = true := by
  intro u hu
  simp [nC] at hu
  subst hu
  rfl
theorem NumsIn.rs {w : World} {a : Option Addr} {l : List Int} (h : NumsIn w a l) : RsIn nC 1 w a l := by
  rcases h with h | ⟨b, o, rfl, hlt, hc⟩
  · exact .inl h
  · refine .inr ⟨b, o, rfl, hlt, fun i x hx j v hv => ?_⟩
    rcases j with _ | j
    · simp [nC] at hv
      subst hv
      rw [Nat.mul_one]
      exact hc i x hx
    · simp [nC] at hv
theorem RsNew.nums {e : TypeId} {lo hi : Nat} {w : World} {a : Option Addr} {l : List Int} (h : RsNew nC 1 e lo hi w a l) : NumsNew lo hi w a l := by
  rcases h with h | ⟨b, o, row, rfl, h1, h2, hg, hs, hc⟩
  · exact .inl h
  · refine .inr ⟨b, o, rfl, h1, h2, (Array.getElem?_eq_some_iff.1 hg).1, fun j hj => frozen_of_row w b (o + j) _ _ hg, fun i x hx => ?_⟩
    have := hc i x hx 0 _ rfl
    rw [Nat.mul_one, Nat.add_zero] at this
    exact (cell_of_row w b (o + i) row e (0, 0) hg).trans this
/-- Rows of two types stand in two blocks. -/
theorem RsNew.apart {α β : Type} {c : α → List Value} {d : β → List Value} {s t : Nat} {e f : TypeId} {lo hi lo' hi' : Nat} {w : World} {a b : Option Addr} {l : List α} {m : List β} (hne : e ≠ f)
    (h : RsNew c s e lo hi w a l) (h' : RsNew d t f lo' hi' w b m) (h1 : lo ≤ hi) (h2 : lo' ≤ hi') :
    ∃ x1 y1 x2 y2, (lo ≤ x1 ∧ x1 ≤ y1 ∧ y1 ≤ hi) ∧ (lo' ≤ x2 ∧ x2 ≤ y2 ∧ y2 ≤ hi') ∧ (y1 ≤ x2 ∨ y2 ≤ x1) ∧ RsNew c s e x1 y1 w a l ∧ RsNew d t f x2 y2 w b m := by
  rcases h with rfl | ⟨B, o, row, rfl, g1, g2, hg, hs, hc⟩
  · by_cases q : lo ≤ lo'
    · exact ⟨lo, lo, lo', hi', by omega, by omega, .inl q, .inl rfl, h'⟩
    · rcases h' with rfl | ⟨B', o', row', rfl, g1', g2', hg', hs', hc'⟩
      · exact ⟨lo, lo, lo', lo', by omega, by omega, .inr (by omega), .inl rfl, .inl rfl⟩
      · by_cases q2 : B' < lo
        · exact ⟨lo, lo, B', B' + 1, by omega, by omega, .inr q2, .inl rfl, .inr ⟨B', o', row', rfl, Nat.le_refl _, Nat.lt_succ_self _, hg', hs', hc'⟩⟩
        · exact ⟨lo, lo, B', B' + 1, by omega, by omega, .inl (by omega), .inl rfl, .inr ⟨B', o', row', rfl, Nat.le_refl _, Nat.lt_succ_self _, hg', hs', hc'⟩⟩
  · have k1 : RsNew c s e B (B + 1) w (some ⟨B, o, none⟩) l := .inr ⟨B, o, row, rfl, Nat.le_refl _, Nat.lt_succ_self _, hg, hs, hc⟩
    rcases h' with rfl | ⟨B', o', row', rfl, g1', g2', hg', hs', hc'⟩
    · by_cases q : B < lo'
      · exact ⟨B, B + 1, lo', lo', by omega, by omega, .inl q, k1, .inl rfl⟩
      · exact ⟨B, B + 1, lo', lo', by omega, by omega, .inr (by omega), k1, .inl rfl⟩
    · have hBB : B ≠ B' := by
        rintro rfl
        rw [hg] at hg'
        injection hg' with hg'
        injection hg' with _ ht _
        exact hne ht
      exact ⟨B, B + 1, B', B' + 1, by omega, by omega, by omega, k1, .inr ⟨B', o', row', rfl, Nat.le_refl _, Nat.lt_succ_self _, hg', hs', hc'⟩⟩

section
variable {P : Program} {o : Oper} {a : Act} {w : World} {K : Act → World → Prop} {Q : Exit → Act → World → Prop}
theorem ob_lit0 (t : TypeId) (ho : o.op = .buildSlice t 0 #[]) (e : TypeId) (i : TypeInfo) (ht : P.underlying t = some (.slice e)) (hi : P.info? e = some i)
    (h : ∀ w' g, w.heap.size = g → Below w.heap.size w w' → K (a.put o.dst (.slice (some ⟨g, 0, none⟩) 0 0)) w') : o.wp P a w K Q := by
  have := h (w.alloc (.cells #[] e)) _ rfl ((Below.refl _ _).alloc (Nat.le_refl _) _)
  unfold Oper.wp execOp
  simp [ho, Instr.buildSlice, run_underlying ht, sizeOf, typeInfo, hi, Instr.fill, newRow, run_newObj_alloc, -run_newObj, Result.andThen_ok, show ∀ f : Nat → Value, (Array.range 0).map f = #[] from fun f => Array.eq_empty_of_size_eq_zero (by simp)]
  exact this
/-- append of a slice of items to an empty literal. -/
theorem ob_append0 {α : Type} {c : α → List Value} {size : Nat} (hc : ∀ x, (c x).length = size) (hone : ∀ x, ∀ u ∈ c x, u.oneCell' = true) (s x : Operand) (t : TypeId)
    (ho : o.op = .call { callee := .builtin .append, args := #[s, x], argTypes := #[t, t] })
    (e : TypeId) (i : TypeInfo) (z : Value) (bytes : Nat) (ht : P.underlying t = some (.slice e)) (hi : P.info? e = some i) (hz : i.zero = some z)
    (hsize : i.size = size) (hby : i.bytes = bytes) (hzs : z.cells.size = size) (hsz : 0 < size)
    (g : Nat) (hs : a.eval s = .slice (some ⟨g, 0, none⟩) 0 0)
    (ad : Option Addr) (cap : Nat) (m : List α) (hx : a.eval x = .slice ad m.length cap) (hin : RsIn c size w ad m)
    (h63 : m.length ≤ maxLen) (hbytes : m.length * bytes ≤ 140737488355328)
    (h : ∀ w' a' c', m.length ≤ c' → RsNew c size e w.heap.size w'.heap.size w' a' m → Below w.heap.size w w' → K (a.put o.dst (.slice a' m.length c')) w') : o.wp P a w K Q := by
  rcases m with _ | ⟨y, m⟩
  · have hrun : (Builtin.append_ #[t, t] o.type #[.slice (some ⟨g, 0, none⟩) 0 0, .slice ad 0 cap]).run P w = .ok (.slice (some ⟨g, 0, none⟩) 0 0) w := by
      have hl : ∀ (x : Addr), (loadCells x 0).run P w = .ok #[] w := fun x => by simpa using run_loadCells_list (P := P) w x [] (by simp)
      cases ad <;> simp [Builtin.append_, run_underlying ht, sizeOf, typeInfo, hi, Builtin.lenOf, Builtin.firstCells, storeCells, hl]
    unfold Oper.wp
    simp [execOp, ho, resolve, invoke, builtin, hs, hx, hrun, Result.andThen]
    exact h w _ _ (Nat.le_refl _) (.inl rfl) (Below.refl _ _)
  · rcases hin with h0 | ⟨b, o', rfl, hlt, hcs⟩
    · cases h0
    · have hfl := flat_len c size hc (y :: m)
      have hpos : 0 < (y :: m).length := by simp
      have hold : (Builtin.firstCells i.size 0 (.slice (some ⟨g, 0, none⟩) 0 0)).run P w.drew = .ok ([] : List Value).toArray w.drew :=
        run_firstCells_some w.drew i.size 0 ⟨g, 0, none⟩ 0 0 [] (by simp) (fun j v hj => by simp at hj)
      have hsrc : Src P i.size t (.slice (some ⟨b, o', none⟩) (y :: m).length cap) (y :: m).length ((y :: m).flatMap c) w := by
        rw [hsize]
        exact Src.ofSlice w ht ⟨b, o', none⟩ _ cap _ hfl (RsIn.news hc hcs) (fun u hu => by
          rw [List.mem_flatMap] at hu
          obtain ⟨x', _, hx'⟩ := hu
          exact hone x' u hx')
      have hr := run_append_grow_src w t t o.type e i z ht hi hz (some ⟨g, 0, none⟩) 0 0 [] hold _ _ _ hsrc (by omega) (by unfold maxLen at h63; omega) (growslice_fits (by omega) (by rw [hby, Nat.zero_add]; exact hbytes))
      rw [Nat.zero_add, List.nil_append] at hr
      generalize hN : (y :: m).length = N at *
      unfold Oper.wp execOp
      simp only [ho, resolve, invoke, builtin, Sem.run_bind, Sem.run_pure, Result.andThen_ok, List.map_toArray, List.map_cons, List.map_nil, hs, hx, hr]
      have hh := heap_alloc_new w.drew (.cells (((y :: m).flatMap c).toArray ++ Builtin.zeroCells z.cells (grownCap w N 0 e - N)) e)
      have hge := grownCap_ge w N 0 e
      refine h _ _ _ hge (.inr ⟨w.heap.size, 0, _, rfl, Nat.le_refl _, by simp, hh, ?_, fun i' x' hx' j v hv => ?_⟩) ((Below.refl _ _).drew.alloc (Nat.le_refl _) _)
      · rw [hN, Array.size_append, List.size_toArray, hfl]
        omega
      · have h1 := flat_at c size hc (y :: m) i' x' hx' j v hv
        have h2 := (List.getElem?_eq_some_iff.1 h1).1
        rw [Nat.zero_add, Array.getElem?_append_left (by simpa using h2)]
        simpa using h1
/-- A store over a whole block that is said whole. -/
theorem ob_put_row (ty : TypeId) (x y : Operand) (ho : o.op = .store ty x y) (g : Nat) (hx : a.eval x = .pointer (some ⟨g, 0, none⟩)) (v : Value) (hy : a.eval y = v) (cells : Array Value) (hcs : v.cells = cells)
    (t : TypeId) (old new : Array Value) (hg : w.heap[g]? = some (.cells old t (0, 0))) (hi : (P.info? ty).map (·.size) = some cells.size) (hk0 : Nat.ble (0 + cells.size) old.size = true) (h1 : cells.toList.all (·.oneCell') = true) (hnew : setAll old 0 cells.toList = new)
    (h : ∀ w', w'.heap[g]? = some (.cells new t (0, 0)) → Out g (g + 1) w w' → K (a.put o.dst undef) w') : o.wp P a w K Q := by
  have hk : 0 + cells.size ≤ old.size := Nat.le_of_ble_eq_true hk0
  have ht : w.there g 0 cells.size := fun j hj => by
    refine ⟨?_, frozen_of_row w g (0 + j) old t hg⟩
    rw [cell_of_row w g (0 + j) old t (0, 0) hg, Array.getElem?_eq_getElem (by omega)]
    rfl
  have hrun := run_storeCells_cells (P := P) g 0 cells.toList 0 w (fun j hj => by simpa using (ht j (by simpa using hj)).1) (fun j hj => by simpa using (ht j (by simpa using hj)).2)
    (fun v hv => List.all_eq_true.1 h1 v hv)
  have hrun2 : (storeVar ty ⟨g, 0, none⟩ v).run P w = .ok () (w.setCells g 0 cells.toList) := by
    cases hq : P.info? ty with
    | none => simp [hq] at hi
    | some i =>
      have hs : cells.size = i.size := by simp [hq] at hi; omega
      simp only [Nat.add_zero] at hrun
      simp [storeVar, sizeOf, typeInfo, hq, hcs, hs, hrun]
  refine ob_skip (w' := w.setCells g 0 cells.toList) ?_ (h _ (hnew ▸ heap_setCells g t cells.toList w 0 old hg) (out_setCells g cells.toList w 0))
  unfold execOp
  simp only [ho, hx, hy, Instr.storeAt, Instr.sureAddr, Sem.run_bind, Sem.run_pure, Result.andThen_ok, hrun2]
end
end Go.Proofs.Ytpolpkheaibonaa
