/- Rows of items that a call makes, one by one: an empty literal, a literal of one, an append. -/
import Derived.Test.YtioldepgoodipaaGreatRs
import Derived.Laws.AppendOwnNone
namespace Go.Proofs.YtioldepgoodipaaGreat
open Go.RowKit
set_option linter.unusedVariables false

/-- The row of these items is the call's own: it lies from lo on and below hi. -/
def OwnIn {α : Type} (c : α → List Value) (s : Nat) (e : TypeId) (lo hi : Nat) (w : World) (v : Value) (l : List α) : Prop :=
  w.ownsRow lo e s v l.length (l.flatMap c) ∧ ∀ k, v.ownBlock = some k → k < hi
section
variable {α : Type} {c : α → List Value} {s : Nat} {e : TypeId} {lo hi lo' hi' : Nat} {w w' : World} {v : Value} {l : List α}
theorem OwnIn.none (w : World) : OwnIn c s e lo hi w (.slice none 0 0) ([] : List α) := ⟨World.ownsRow_nil _ _ _ _, fun k h => by cases h⟩
theorem OwnIn.solid (h : OwnIn c s e lo hi w v l) : Solid lo hi (fun W => OwnIn c s e lo hi W v l) w := by
  intro W' _ hk
  obtain ⟨⟨h0, h1⟩, h2⟩ := h
  refine ⟨⟨h0, ?_⟩, h2⟩
  rcases h1 with h1 | ⟨g, cap, cur, rfl, hb, hg, k⟩
  · exact .inl h1
  · exact .inr ⟨g, cap, cur, rfl, hb, (hk g hb (h2 g rfl)).trans hg, k⟩
theorem OwnIn.wide (h : OwnIn c s e lo hi w v l) (h2 : hi ≤ hi') : OwnIn c s e lo hi' w v l := ⟨h.1, fun k hk => Nat.lt_of_lt_of_le (h.2 k hk) h2⟩
theorem OwnIn.kept (h : OwnIn c s e lo hi w v l) (hb : Below w.heap.size w w') : OwnIn c s e lo hi w' v l := by
  obtain ⟨⟨h0, h1⟩, h2⟩ := h
  refine ⟨⟨h0, ?_⟩, h2⟩
  rcases h1 with h1 | ⟨g, cap, cur, rfl, hb', hg, k⟩
  · exact .inl h1
  · exact .inr ⟨g, cap, cur, rfl, hb', (hb.block g (Array.getElem?_eq_some_iff.1 hg).1).trans hg, k⟩
theorem OwnIn.new (hs : ∀ x, (c x).length = s) (h : OwnIn c s e lo hi w v l) : ∃ a cap, v = .slice a l.length cap ∧ l.length ≤ cap ∧ RsNew c s e lo hi w a l := by
  obtain ⟨h1, h2⟩ := h
  obtain ⟨a, cap, rfl, hc, hn⟩ := RsNew.of_owns hs h1
  refine ⟨a, cap, rfl, hc, ?_⟩
  rcases hn with hn | ⟨b, o, row, rfl, h3, _, k⟩
  · exact .inl hn
  · exact .inr ⟨b, o, row, rfl, h3, h2 b rfl, k⟩
end
section
variable {P : Program} {ops : Array Oper} {rest : List Oper} {o : Oper} {a : Act} {w : World} {Q : Exit → Act → World → Prop}
theorem wpList_lit0 {α : Type} (c : α → List Value) (s : Nat) (hgd : o.guard = none) (t : TypeId) (ho : o.op = .buildSlice t 0 #[]) (e : TypeId) (i : TypeInfo) (ht : P.underlying t = some (.slice e)) (hi : P.info? e = some i)
    (h : ∀ w' g, w.heap.size = g → OwnIn c s e g w'.heap.size w' (.slice (some ⟨g, 0, none⟩) 0 0) ([] : List α) → Below w.heap.size w w' → wpList P ops Q rest (a.put o.dst (.slice (some ⟨g, 0, none⟩) 0 0)) w') : wpList P ops Q (o :: rest) a w :=
  wpList_plain hgd fun K hK => by
    have hown := World.ownsRow_lit (base := w.heap.size) (size := s) (e := e) w #[] 0 (Nat.le_refl _) (by unfold maxLen; omega) (by simp)
    have := hK _ _ (h (w.alloc (.cells #[] e)) _ rfl ⟨hown, fun k hk => by simp [Value.ownBlock] at hk; subst hk; simp⟩ ((Below.refl _ _).alloc (Nat.le_refl _) _))
    unfold Oper.wp execOp
    simp [ho, Instr.buildSlice, run_underlying ht, sizeOf, typeInfo, hi, Instr.fill, newRow, run_newObj_alloc, -run_newObj, Result.andThen_ok, show ∀ f : Nat → Value, (Array.range 0).map f = #[] from fun f => Array.eq_empty_of_size_eq_zero (by simp)]
    exact this
/-- append of a slice of items to a row of the call's own. -/
theorem wpList_append_rs {α : Type} {c : α → List Value} {size : Nat} (hc : ∀ x, (c x).length = size) (hone : ∀ x, ∀ u ∈ c x, u.oneCell' = true) (hgd : o.guard = none) (s x : Operand) (t : TypeId)
    (ho : o.op = .call { callee := .builtin .append, args := #[s, x], argTypes := #[t, t] })
    (e : TypeId) (i : TypeInfo) (z : Value) (bytes : Nat) (ht : P.underlying t = some (.slice e)) (hi : P.info? e = some i) (hz : i.zero = some z)
    (hsize : i.size = size) (hby : i.bytes = bytes) (hzs : z.cells.size = size) (hsz : 0 < size)
    (lo hi' : Nat) (v : Value) (l : List α) (hs : a.eval s = v) (hown : OwnIn c size e lo hi' w v l)
    (ad : Option Addr) (cap : Nat) (m : List α) (hx : a.eval x = .slice ad m.length cap) (hin : RsIn c size w ad m)
    (h63 : l.length + m.length ≤ maxLen) (hbytes : (l.length + m.length) * bytes ≤ 140737488355328) (hbase : lo ≤ w.heap.size)
    (h : ∀ v' w', OwnIn c size e lo w'.heap.size w' v' (l ++ m) → Out lo hi' w w' → wpList P ops Q rest (a.put o.dst v') w') : wpList P ops Q (o :: rest) a w := by
  obtain ⟨hown, hlt⟩ := hown
  have hgo : ∀ v' w', w'.ownsRow lo e size v' (l.length + m.length) (l.flatMap c ++ m.flatMap c) → w.grownBy w' v.ownBlock → wpList P ops Q rest (a.put o.dst v') w' := fun v' w' h1 h2 => by
    refine h v' w' ⟨by simpa using h1, fun k hk => (World.ownsRow.lt h1 k hk).2⟩ (Out.of_grown h2 fun k hk => ⟨(World.ownsRow.lt hown k hk).1, hlt k hk⟩)
  rcases ad with _ | ad
  · have hl : m = [] := by
      rcases hin with h | ⟨b, o', h', _⟩
      · exact h
      · cases h'
    subst hl
    refine wpList_plain hgd fun K hK => ?_
    have hrun : (Builtin.append_ #[t, t] o.type #[v, .slice none 0 cap]).run P w = .ok v w := by
      rcases hown.2 with ⟨rfl, h0⟩ | ⟨g, cap', cur, rfl, _, _, hnc, _⟩
      · simp [Builtin.append_, run_underlying ht, sizeOf, typeInfo, hi, Builtin.lenOf, Builtin.firstCells]
      · simp [Builtin.append_, run_underlying ht, sizeOf, typeInfo, hi, Builtin.lenOf, Builtin.firstCells, hnc, storeCells]
    unfold Oper.wp
    simp [execOp, ho, resolve, invoke, builtin, hs, hx, hrun, Result.andThen]
    exact hK _ _ (hgo v w (by simpa using hown) ⟨rfl, rfl, rfl, Nat.le_refl _, fun _ _ _ => rfl⟩)
  · refine wpList_append_own w hgd s x t ho lo e i z size bytes ht hi hz hsize hby hzs hsz v l.length (l.flatMap c) hs hown ad m.length cap (m.flatMap c) hx (flat_len c size hc m) ?_ ?_ h63 hbytes hbase fun v' w' h1 h2 _ => hgo v' w' h1 h2
    · rcases hin with rfl | ⟨b, o', h', _, hcs⟩
      · intro j u hj
        simp at hj
      · cases h'
        exact RsIn.news hc hcs
    · intro u hu
      rw [List.mem_flatMap] at hu
      obtain ⟨x, _, hx⟩ := hu
      exact hone x u hx
theorem fold_set : ∀ (cs : List Value) (A : Array Value) (k : Nat), A.size = k + cs.length → List.foldl (fun (B : Array Value) (x : Value × Nat) => B.setIfInBounds x.2 x.1) A (cs.zipIdx k) = (A.toList.take k ++ cs).toArray
  | [], A, k, h => by
    simp only [List.length_nil, Nat.add_zero] at h
    subst h
    show A = _
    rw [List.append_nil, List.take_of_length_le (by simp)]
  | v :: r, A, k, h => by
    simp only [List.length_cons] at h
    rw [List.zipIdx_cons, List.foldl_cons, fold_set r _ (k + 1) (by simp; omega)]
    have hk : k < A.toList.length := by simp; omega
    have e : (A.setIfInBounds k v).toList.take (k + 1) = A.toList.take k ++ [v] := by
      rw [Array.toList_setIfInBounds, List.take_add_one, List.take_set_of_le (Nat.le_refl _)]
      rw [List.getElem?_set_self (by simpa using hk)]
      rfl
    rw [e]
    simp
/-- A literal of one item. -/
theorem wpList_lit1 {α : Type} {c : α → List Value} {size : Nat} (hc : ∀ x, (c x).length = size) (hgd : o.guard = none) (t : TypeId) (y : Operand) (ho : o.op = .buildSlice t 1 #[(0, y)]) (e : TypeId) (i : TypeInfo) (ht : P.underlying t = some (.slice e)) (hi : P.info? e = some i)
    (z : Value) (hz : i.zero = some z) (hsize : i.size = size) (x : α) (v : Value) (hy : a.eval y = v) (hv : v.cells = (c x).toArray) (hzs : z.cells.size = size) (hsz : 0 < size) (hmax : size ≤ 16777216)
    (h : ∀ w' g, w.heap.size = g → RsIn c size w' (some ⟨g, 0, none⟩) [x] → Below w.heap.size w w' → wpList P ops Q rest (a.put o.dst (.slice (some ⟨g, 0, none⟩) 1 1)) w') : wpList P ops Q (o :: rest) a w :=
  wpList_plain hgd fun K hK => by
    have hh := heap_alloc_new w (.cells (c x).toArray e)
    have hin : RsIn c size (w.alloc (.cells (c x).toArray e)) (some ⟨w.heap.size, 0, none⟩) [x] := .inr ⟨w.heap.size, 0, rfl, by simp, fun i' x' hx j u hu => by
      have : i' = 0 ∧ x' = x := by
        rcases i' with _ | i'
        · simp at hx
          exact ⟨rfl, hx.symm⟩
        · simp at hx
      obtain ⟨rfl, rfl⟩ := this
      rw [cell_of_row _ _ _ _ _ (0, 0) hh]
      simpa using hu⟩
    have := hK _ _ (h (w.alloc (.cells (c x).toArray e)) _ rfl hin ((Below.refl _ _).alloc (Nat.le_refl _) _))
    unfold Oper.wp execOp
    have hlen := hc x
    simp [ho, Instr.buildSlice, run_underlying ht, sizeOf, typeInfo, hi, hz, zeroValue, Instr.fill, newRow, -run_newObj, Result.andThen_ok, hy, hv, hlen, hsize, show ¬ 16777216 < size by omega, show ¬ size = 0 by omega]
    rw [fold_set _ _ 0 (by simp [hlen])]
    simp [-run_newObj]
    exact this
end
end Go.Proofs.YtioldepgoodipaaGreat
