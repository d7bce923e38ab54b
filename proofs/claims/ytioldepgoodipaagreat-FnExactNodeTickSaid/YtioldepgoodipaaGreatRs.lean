/- Slices of structs: a row of items, each some cells. What came in, what a call made; what lives while a function runs, whatever it is. -/
import Derived.Test.YtioldepgoodipaaGreatStep
namespace Go.Proofs.YtioldepgoodipaaGreat
open Go.RowKit
set_option linter.unusedVariables false

/-- It holds in W, and wherever the blocks from lo on and below hi are as in W. -/
def Solid (lo hi : Nat) (P : World → Prop) (W : World) : Prop := ∀ W' : World, W.heap.size ≤ W'.heap.size → (∀ k, lo ≤ k → k < hi → W'.heap[k]? = W.heap[k]?) → P W'
section
variable {lo hi lo' hi' B : Nat} {P P' : World → Prop} {W W' : World}
theorem Solid.here (h : Solid lo hi P W) : P W := h W (Nat.le_refl _) (fun _ _ _ => rfl)
theorem Solid.moved (h : Solid lo hi P W) (hs : W.heap.size ≤ W'.heap.size) (hk : ∀ k, lo ≤ k → k < hi → W'.heap[k]? = W.heap[k]?) : Solid lo hi P W' :=
  fun W2 h1 h2 => h W2 (Nat.le_trans hs h1) (fun k a b => (h2 k a b).trans (hk k a b))
theorem Solid.kept (h : Solid lo hi P W) (hb : Below W.heap.size W W') (hh : hi ≤ W.heap.size) : Solid lo hi P W' := h.moved hb.size (fun k _ b => hb.block k (Nat.lt_of_lt_of_le b hh))
theorem Solid.out (h : Solid lo hi P W) (ho : Out lo' hi' W W') (hh : hi ≤ W.heap.size) (hd : hi ≤ lo' ∨ hi' ≤ lo) : Solid lo hi P W' :=
  h.moved ho.size (fun k a b => ho.block k (Nat.lt_of_lt_of_le b hh) (by omega))
theorem Solid.wide (h : Solid lo hi P W) (h1 : lo' ≤ lo) (h2 : hi ≤ hi') : Solid lo' hi' P W := fun W2 a b => h W2 a (fun k c d => b k (Nat.le_trans h1 c) (Nat.lt_of_lt_of_le d h2))
theorem Solid.and (h : Solid lo hi P W) (h' : Solid lo hi P' W) : Solid lo hi (fun w => P w ∧ P' w) W := fun W2 a b => ⟨h W2 a b, h' W2 a b⟩
theorem Solid.imp (h : Solid lo hi P W) (f : ∀ w, P w → P' w) : Solid lo hi P' W := fun W2 a b => f _ (h W2 a b)
end

theorem Out.widen {b lo hi : Nat} {w w' : World} (h : Out b (b + 1) w w') (h1 : lo ≤ b) (h2 : b < hi) : Out lo hi w w' :=
  ⟨h.os, h.tape, h.output, h.size, fun k hk h' => h.block k hk (by omega)⟩
/-- The cells behind a are these items. -/
def RsIn {α : Type} (c : α → List Value) (s : Nat) (w : World) (a : Option Addr) (l : List α) : Prop :=
  l = [] ∨ ∃ b o, a = some ⟨b, o, none⟩ ∧ b < w.heap.size ∧ ∀ (i : Nat) x, l[i]? = some x → ∀ (j : Nat) v, (c x)[j]? = some v → w.cell? ⟨b, o + i * s + j, none⟩ = some v
/-- They stand in a block from lo on and below hi, which is said whole and may be written. -/
def RsNew {α : Type} (c : α → List Value) (s : Nat) (e : TypeId) (lo hi : Nat) (w : World) (a : Option Addr) (l : List α) : Prop :=
  l = [] ∨ ∃ b o row, a = some ⟨b, o, none⟩ ∧ lo ≤ b ∧ b < hi ∧ w.heap[b]? = some (.cells row e (0, 0)) ∧ o + l.length * s ≤ row.size ∧ ∀ (i : Nat) x, l[i]? = some x → ∀ (j : Nat) v, (c x)[j]? = some v → row[o + i * s + j]? = some v
section
variable {α : Type} {c : α → List Value} {s : Nat} {e : TypeId} {lo hi lo' hi' B : Nat} {w w' : World} {a : Option Addr} {l : List α}
theorem RsIn.nil (w : World) (a : Option Addr) : RsIn c s w a [] := .inl rfl
theorem RsIn.kept (h : RsIn c s w a l) (hb : Below w.heap.size w w') : RsIn c s w' a l := by
  rcases h with h | ⟨b, o, rfl, hlt, hc⟩
  · exact .inl h
  · exact .inr ⟨b, o, rfl, Nat.lt_of_lt_of_le hlt hb.size, fun i x hx j v hv => (hb.cell (p := ⟨b, _, none⟩) hlt).trans (hc i x hx j v hv)⟩
theorem RsIn.below (h : RsIn c s w a l) (hb : Below B w w') (hB : w.heap.size ≤ B) : RsIn c s w' a l := h.kept (hb.mono hB)
theorem RsIn.at (h : RsIn c s w a l) (hl : 0 < l.length) : ∃ b o, a = some ⟨b, o, none⟩ ∧ b < w.heap.size ∧ ∀ (i : Nat) x, l[i]? = some x → ∀ (j : Nat) v, (c x)[j]? = some v → w.cell? ⟨b, o + i * s + j, none⟩ = some v := by
  rcases h with rfl | h
  · simp at hl
  · exact h
theorem RsIn.take (h : RsIn c s w a l) (n : Nat) : RsIn c s w a (l.take n) := by
  rcases h with rfl | ⟨b, o, rfl, hlt, hc⟩
  · exact .inl (by simp)
  · refine .inr ⟨b, o, rfl, hlt, fun i x hx j v hv => hc i x ?_ j v hv⟩
    rw [List.getElem?_take] at hx
    split at hx
    · exact hx
    · cases hx
theorem RsNew.nil (a : Option Addr) : RsNew c s e lo hi w a ([] : List α) := .inl rfl
theorem RsNew.ins (h : RsNew c s e lo hi w a l) : RsIn c s w a l := by
  rcases h with h | ⟨b, o, row, rfl, _, _, hg, _, hc⟩
  · exact .inl h
  · exact .inr ⟨b, o, rfl, (Array.getElem?_eq_some_iff.1 hg).1, fun i x hx j v hv => (cell_of_row w b _ row e (0, 0) hg).trans (hc i x hx j v hv)⟩
theorem RsNew.wide (h : RsNew c s e lo hi w a l) (h1 : lo' ≤ lo) (h2 : hi ≤ hi') : RsNew c s e lo' hi' w a l := by
  rcases h with h | ⟨b, o, row, rfl, h3, h4, k⟩
  · exact .inl h
  · exact .inr ⟨b, o, row, rfl, by omega, by omega, k⟩
theorem RsNew.solid (h : RsNew c s e lo hi w a l) : Solid lo hi (fun W => RsNew c s e lo hi W a l) w := by
  intro W' _ hk
  rcases h with h | ⟨b, o, row, rfl, h3, h4, hg, k⟩
  · exact .inl h
  · exact .inr ⟨b, o, row, rfl, h3, h4, (hk b h3 h4).trans hg, k⟩
theorem RsNew.kept (h : RsNew c s e lo hi w a l) (hb : Below w.heap.size w w') : RsNew c s e lo hi w' a l := by
  rcases h with h | ⟨b, o, row, rfl, h3, h4, hg, k⟩
  · exact .inl h
  · exact .inr ⟨b, o, row, rfl, h3, h4, (hb.block b (Array.getElem?_eq_some_iff.1 hg).1).trans hg, k⟩
theorem RsNew.out (h : RsNew c s e lo hi w a l) (ho : Out lo' hi' w w') (hd : hi ≤ lo' ∨ hi' ≤ lo) : RsNew c s e lo hi w' a l := by
  rcases h with h | ⟨b, o, row, rfl, h3, h4, hg, k⟩
  · exact .inl h
  · exact .inr ⟨b, o, row, rfl, h3, h4, (ho.block b (Array.getElem?_eq_some_iff.1 hg).1 (by omega)).trans hg, k⟩
end
theorem grownOfBelow {W W' : World} {r : Option Nat} (hb : Below W.heap.size W W') : W.grownBy W' r := ⟨hb.os, hb.tape, hb.output, hb.size, fun k hk _ => hb.block k hk⟩
theorem RsIn.drop {α : Type} {c : α → List Value} {s : Nat} {w : World} {b o : Nat} {l : List α} (h : RsIn c s w (some ⟨b, o, none⟩) l) (k : Nat) : RsIn c s w (some ⟨b, o + k * s, none⟩) (l.drop k) := by
  rcases h with rfl | ⟨b', o', he, hlt, hc⟩
  · exact .inl (by simp)
  · simp only [Option.some.injEq, Addr.mk.injEq, and_true] at he
    obtain ⟨rfl, rfl⟩ := he
    refine .inr ⟨b, _, rfl, hlt, fun i x hx j v hv => ?_⟩
    rw [List.getElem?_drop] at hx
    have := hc (k + i) x hx j v hv
    rw [Nat.add_mul, ← Nat.add_assoc] at this
    exact this
theorem slice_len {v : Value} {ad : Option Addr} {n m cap : Nat} (h : v = .slice ad n cap) (e : m = n) : v = .slice ad m cap := by
  rw [e]
  exact h
theorem NumsNew.solid {lo hi : Nat} {w : World} {a : Option Addr} {l : List Int} (h : NumsNew lo hi w a l) : Solid lo hi (fun W => NumsNew lo hi W a l) w := by
  intro W' hs hk
  rcases h with h | ⟨b, o, rfl, h3, h4, hlt, hf, hc⟩
  · exact .inl h
  · exact .inr ⟨b, o, rfl, h3, h4, Nat.lt_of_lt_of_le hlt hs, fun j hj => (World.frozen?_of_block (w := w) (hk b h3 h4)).trans (hf j hj), fun i x hx => (World.cell?_of_block (w := w) (hk b h3 h4)).trans (hc i x hx)⟩

/-- What an append takes in: the cells of all. -/
theorem flat_len {α : Type} (c : α → List Value) (s : Nat) (hs : ∀ x, (c x).length = s) (l : List α) : (l.flatMap c).length = l.length * s := by
  induction l with
  | nil => simp
  | cons x l ih => simp only [List.flatMap_cons, List.length_append, hs, ih, List.length_cons, Nat.succ_mul]; omega
theorem flat_at {α : Type} (c : α → List Value) (s : Nat) (hs : ∀ x, (c x).length = s) (l : List α) : ∀ (i : Nat) x, l[i]? = some x → ∀ (j : Nat) v, (c x)[j]? = some v → (l.flatMap c)[i * s + j]? = some v := by
  induction l with
  | nil => intro i x h; simp at h
  | cons y l ih =>
    intro i x h j v hv
    have hj : j < s := by rw [← hs x]; exact (List.getElem?_eq_some_iff.1 hv).1
    rcases i with _ | i
    · simp at h
      subst h
      rw [List.flatMap_cons, List.getElem?_append_left (by rw [hs]; omega)]
      simpa using hv
    · simp at h
      rw [List.flatMap_cons, List.getElem?_append_right (by rw [hs, Nat.succ_mul]; omega), hs]
      rw [show (i + 1) * s + j - s = i * s + j by rw [Nat.succ_mul]; omega]
      exact ih i x h j v hv
theorem flat_back {α : Type} (c : α → List Value) (s : Nat) (hs : ∀ x, (c x).length = s) (l : List α) : ∀ (k : Nat) v, (l.flatMap c)[k]? = some v → ∃ i j x, k = i * s + j ∧ l[i]? = some x ∧ (c x)[j]? = some v := by
  induction l with
  | nil => intro k v h; simp at h
  | cons y l ih =>
    intro k v h
    rw [List.flatMap_cons] at h
    rcases Nat.lt_or_ge k s with hk | hk
    · rw [List.getElem?_append_left (by rw [hs]; omega)] at h
      exact ⟨0, k, y, by omega, by simp, h⟩
    · rw [List.getElem?_append_right (by rw [hs]; omega), hs] at h
      obtain ⟨i, j, x, h1, h2, h3⟩ := ih _ _ h
      exact ⟨i + 1, j, x, by rw [Nat.succ_mul]; omega, by simpa using h2, h3⟩
/-- A row that the call owns, read as items. -/
theorem RsNew.of_owns {α : Type} {c : α → List Value} {s : Nat} {e : TypeId} (hs : ∀ x, (c x).length = s) {w : World} {base : Nat} {v : Value} {l : List α} (h : w.ownsRow base e s v l.length (l.flatMap c)) :
    ∃ a cap, v = .slice a l.length cap ∧ l.length ≤ cap ∧ RsNew c s e base w.heap.size w a l := by
  have h' := h
  rcases h.2 with ⟨rfl, hn⟩ | ⟨g, cap, cur, rfl, hb, hh, hcap, hm, hsz, ht⟩
  · have : l = [] := List.eq_nil_of_length_eq_zero hn
    subst this
    exact ⟨none, 0, rfl, Nat.le_refl _, .inl rfl⟩
  · have hlt := (World.ownsRow.lt h' g rfl).2
    refine ⟨some ⟨g, 0, none⟩, cap, rfl, hcap, .inr ⟨g, 0, cur, rfl, hb, hlt, hh, ?_, fun i x hx j v hv => ?_⟩⟩
    · rw [hsz, Nat.zero_add]
      exact Nat.mul_le_mul_right s hcap
    · have h1 := flat_at c s hs l i x hx j v hv
      rw [← ht, List.getElem?_take] at h1
      split at h1
      · rw [Nat.zero_add, ← Array.getElem?_toList]
        exact h1
      · cases h1
/-- The items of a slice, as an append reads them. -/
theorem RsIn.news {α : Type} {c : α → List Value} {s : Nat} (hs : ∀ x, (c x).length = s) {w : World} {b o : Nat} {l : List α} (hc : ∀ (i : Nat) x, l[i]? = some x → ∀ (j : Nat) v, (c x)[j]? = some v → w.cell? ⟨b, o + i * s + j, none⟩ = some v) :
    ∀ j u, (l.flatMap c)[j]? = some u → w.cell? ((⟨b, o, none⟩ : Addr).add j) = some u := by
  intro k u h
  have e : (⟨b, o, none⟩ : Addr).add k = ⟨b, o + k, none⟩ := by unfold Addr.add; split <;> simp_all
  rw [e]
  obtain ⟨i, j, x, rfl, h2, h3⟩ := flat_back c s hs l k u h
  rw [← Nat.add_assoc]
  exact hc i x h2 j u h3

/-! A row of cells, stored into. -/
theorem setAll_size : ∀ (vs : List Value) (cs : Array Value) (o : Nat), (setAll cs o vs).size = cs.size
  | [], cs, o => rfl
  | v :: r, cs, o => (setAll_size r _ (o + 1)).trans (by simp)
theorem setAll_off : ∀ (vs : List Value) (cs : Array Value) (o j : Nat), (j < o ∨ o + vs.length ≤ j) → (setAll cs o vs)[j]? = cs[j]?
  | [], cs, o, j, _ => rfl
  | v :: r, cs, o, j, h => by
    simp only [List.length_cons] at h
    refine (setAll_off r _ (o + 1) j (by omega)).trans ?_
    rw [Array.getElem?_setIfInBounds]
    rw [if_neg (by omega)]
theorem setAll_at : ∀ (vs : List Value) (cs : Array Value) (o j : Nat) (v : Value), o + vs.length ≤ cs.size → vs[j]? = some v → (setAll cs o vs)[o + j]? = some v
  | [], cs, o, j, v, _, h => by simp at h
  | u :: r, cs, o, j, v, hs, h => by
    simp only [List.length_cons] at hs
    rcases j with _ | j
    · simp at h
      subst h
      refine (setAll_off r _ (o + 1) o (by omega)).trans ?_
      rw [Array.getElem?_setIfInBounds]
      rw [if_pos rfl, if_pos (by omega)]
    · have := setAll_at r (cs.setIfInBounds o u) (o + 1) j v (by simp; omega) (by simpa using h)
      rw [show o + (j + 1) = o + 1 + j by omega]
      exact this

section
variable {P : Program} {ops : Array Oper} {rest : List Oper} {o : Oper} {a : Act} {w : World} {Q : Exit → Act → World → Prop}
/-- A load of a struct whose cells are there. -/
theorem wpList_load_cells (hgd : Region.wanted o (yielded ops a.tmps) = true) (ty : TypeId) (x : Operand) (ho : o.op = .load ty x) (g k : Nat) (hx : a.eval x = .pointer (some ⟨g, k, none⟩))
    (cs : List Value) (hcs : ∀ (j : Nat) v, cs[j]? = some v → w.cell? ⟨g, k + j, none⟩ = some v) (d : TypeDesc) (hu : P.underlying ty = some d) (hd : d.isRow = true) (hi : (P.info? ty).map (·.size) = some cs.length)
    (h : wpList P ops Q rest (a.put o.dst (.agg cs.toArray)) w) : wpList P ops Q (o :: rest) a w :=
  BigFrame.wpList_want hgd fun _ hK => wp_load_mid ty x ho g k hx cs d hcs hu hd hi (hK _ _ h)
end

/-- What lives while a function runs: below w's own blocks nothing has turned; the variables rs hold what they hold; of the blocks of each of ns that holds which is said of them. -/
structure Lg (w W : World) (rs : List (Nat × Array Value × TypeId)) (ns : List (Nat × Nat × (World → Prop))) : Prop where
  below : Below w.heap.size w W
  row : ∀ r ∈ rs, w.heap.size ≤ r.1 ∧ W.heap[r.1]? = some (.cells r.2.1 r.2.2 (0, 0))
  new : ∀ n ∈ ns, (w.heap.size ≤ n.1 ∧ n.1 ≤ n.2.1 ∧ n.2.1 ≤ W.heap.size) ∧ Solid n.1 n.2.1 n.2.2 W
section
variable {w W W' : World} {rs rs' : List (Nat × Array Value × TypeId)} {ns ns' : List (Nat × Nat × (World → Prop))}
theorem Lg.first (w : World) : Lg w w [] [] := ⟨Below.refl _ _, fun r hr => (by cases hr), fun n hn => (by cases hn)⟩
theorem Lg.kept (h : Lg w W rs ns) (hb : Below W.heap.size W W') : Lg w W' rs ns :=
  ⟨h.below.trans (hb.mono h.below.size), fun r hr => ⟨(h.row r hr).1, (hb.block _ (Array.getElem?_eq_some_iff.1 (h.row r hr).2).1).trans (h.row r hr).2⟩, fun n hn => ⟨⟨(h.new n hn).1.1, (h.new n hn).1.2.1, Nat.le_trans (h.new n hn).1.2.2 hb.size⟩, (h.new n hn).2.kept hb (h.new n hn).1.2.2⟩⟩
theorem Lg.addRow (h : Lg w W rs ns) {g : Nat} {cs : Array Value} {T : TypeId} (hg : W.heap[g]? = some (.cells cs T (0, 0))) (hle : w.heap.size ≤ g) : Lg w W ((g, cs, T) :: rs) ns :=
  ⟨h.below, fun r hr => by
    rcases List.mem_cons.1 hr with rfl | hr
    · exact ⟨hle, hg⟩
    · exact h.row r hr, h.new⟩
theorem Lg.box (h : Lg w W rs ns) {R : Nat} {cs : Array Value} {T : TypeId} (hR : W.heap.size = R) (hg : W'.heap[R]? = some (.cells cs T (0, 0))) (hb : Below W.heap.size W W') : Lg w W' ((R, cs, T) :: rs) ns :=
  (h.kept hb).addRow hg (hR ▸ h.below.size)
theorem Lg.addNew (h : Lg w W rs ns) {lo hi : Nat} {P : World → Prop} (hn : Solid lo hi P W) (hle : w.heap.size ≤ lo) (hlh : lo ≤ hi) (hhi : hi ≤ W.heap.size) : Lg w W rs ((lo, hi, P) :: ns) :=
  ⟨h.below, h.row, fun n h' => by
    rcases List.mem_cons.1 h' with rfl | h'
    · exact ⟨⟨hle, hlh, hhi⟩, hn⟩
    · exact h.new n h'⟩
theorem Lg.less (h : Lg w W rs ns) (h1 : ∀ r ∈ rs', r ∈ rs) (h2 : ∀ n ∈ ns', n ∈ ns) : Lg w W rs' ns' := ⟨h.below, fun r hr => h.row r (h1 r hr), fun n hn => h.new n (h2 n hn)⟩
theorem Lg.get (h : Lg w W rs ns) {g : Nat} {cs : Array Value} {T : TypeId} (hm : (g, cs, T) ∈ rs) : W.heap[g]? = some (.cells cs T (0, 0)) := (h.row _ hm).2
theorem Lg.lt (h : Lg w W rs ns) {g : Nat} {cs : Array Value} {T : TypeId} (hm : (g, cs, T) ∈ rs) : g < W.heap.size := (Array.getElem?_eq_some_iff.1 (h.row _ hm).2).1
theorem Lg.ge (h : Lg w W rs ns) {g : Nat} {cs : Array Value} {T : TypeId} (hm : (g, cs, T) ∈ rs) : w.heap.size ≤ g := (h.row _ hm).1
theorem Lg.at (h : Lg w W rs ns) {lo hi : Nat} {P : World → Prop} (hm : (lo, hi, P) ∈ ns) : P W := (h.new _ hm).2.here
theorem Lg.solid (h : Lg w W rs ns) {lo hi : Nat} {P : World → Prop} (hm : (lo, hi, P) ∈ ns) : Solid lo hi P W := (h.new _ hm).2
theorem Lg.lo (h : Lg w W rs ns) {lo hi : Nat} {P : World → Prop} (hm : (lo, hi, P) ∈ ns) : w.heap.size ≤ lo := (h.new _ hm).1.1
/-- What has turned lies from lo on and below hi. -/
theorem Lg.out {lo hi : Nat} (h : Lg w W rs ns) (ho : Out lo hi W W') (hlo : w.heap.size ≤ lo) (hr : ∀ r ∈ rs, r.1 < lo ∨ hi ≤ r.1) (hn : ∀ n ∈ ns, n.2.1 ≤ lo ∨ hi ≤ n.1) : Lg w W' rs ns :=
  ⟨ho.below h.below hlo h.below.size, fun r h' => ⟨(h.row r h').1, (ho.block _ (Array.getElem?_eq_some_iff.1 (h.row r h').2).1 (hr r h')).trans (h.row r h').2⟩, fun n h' => ⟨⟨(h.new n h').1.1, (h.new n h').1.2.1, Nat.le_trans (h.new n h').1.2.2 ho.size⟩, (h.new n h').2.out ho (h.new n h').1.2.2 (hn n h')⟩⟩
/-- One of the variables is stored into. -/
theorem Lg.put (h : Lg w W rs ns) (i : Nat) {g : Nat} {old new : Array Value} {T : TypeId} (hm : rs[i]? = some (g, old, T)) (hg : W'.heap[g]? = some (.cells new T (0, 0))) (ho : Out g (g + 1) W W')
    (h1 : ∀ r ∈ rs.eraseIdx i, r.1 ≠ g) (h2 : ∀ n ∈ ns, n.2.1 ≤ g ∨ g + 1 ≤ n.1) (hrs : rs' = rs.set i (g, new, T)) : Lg w W' rs' ns := by
  have hin := h.row _ (List.mem_of_getElem? hm)
  refine ⟨ho.below h.below hin.1 h.below.size, fun r hr => ?_, fun n hn => ⟨⟨(h.new n hn).1.1, (h.new n hn).1.2.1, Nat.le_trans (h.new n hn).1.2.2 ho.size⟩, (h.new n hn).2.out ho (h.new n hn).1.2.2 (h2 n hn)⟩⟩
  subst hrs
  obtain ⟨j, hj⟩ := List.getElem?_of_mem hr
  rw [List.getElem?_set] at hj
  split at hj
  · rename_i hij
    split at hj
    · cases hj
      exact ⟨hin.1, hg⟩
    · cases hj
  · rename_i hij
    have hr' : r ∈ rs := List.mem_of_getElem? hj
    have hne : r.1 ≠ g := h1 r (by
      rw [List.mem_eraseIdx_iff_getElem?]
      exact ⟨j, fun e => hij e.symm, hj⟩)
    refine ⟨(h.row r hr').1, ?_⟩
    exact (ho.block _ (Array.getElem?_eq_some_iff.1 (h.row r hr').2).1 (by omega)).trans (h.row r hr').2
/-- What stands in the blocks of one is written. -/
theorem Lg.mark (h : Lg w W rs ns) (i : Nat) {lo hi : Nat} {P P' : World → Prop} (hm : ns[i]? = some (lo, hi, P)) (ho : Out lo hi W W') (hn : Solid lo hi P' W')
    (hr : ∀ r ∈ rs, r.1 < lo ∨ hi ≤ r.1) (h2 : ∀ n ∈ ns.eraseIdx i, n.2.1 ≤ lo ∨ hi ≤ n.1) (hns : ns' = ns.set i (lo, hi, P')) : Lg w W' rs ns' := by
  have hin := h.new _ (List.mem_of_getElem? hm)
  refine ⟨ho.below h.below hin.1.1 h.below.size, fun r h' => ⟨(h.row r h').1, (ho.block _ (Array.getElem?_eq_some_iff.1 (h.row r h').2).1 (hr r h')).trans (h.row r h').2⟩, fun n hn' => ?_⟩
  subst hns
  obtain ⟨j, hj⟩ := List.getElem?_of_mem hn'
  rw [List.getElem?_set] at hj
  split at hj
  · split at hj
    · cases hj
      exact ⟨⟨hin.1.1, hin.1.2.1, Nat.le_trans hin.1.2.2 ho.size⟩, hn⟩
    · cases hj
  · rename_i hij
    have hn2 : n ∈ ns := List.mem_of_getElem? hj
    have hne := h2 n (by
      rw [List.mem_eraseIdx_iff_getElem?]
      exact ⟨j, fun e => hij e.symm, hj⟩)
    exact ⟨⟨(h.new n hn2).1.1, (h.new n hn2).1.2.1, Nat.le_trans (h.new n hn2).1.2.2 ho.size⟩, (h.new n hn2).2.out ho (h.new n hn2).1.2.2 hne⟩
/-- What a call made, in memory of its own. -/
theorem Lg.made (h : Lg w W rs ns) {lo hi : Nat} {P : World → Prop} (hlo : W.heap.size = lo) (hhi : W'.heap.size = hi) (hb : Below W.heap.size W W') (hn : Solid lo hi P W') : Lg w W' rs ((lo, hi, P) :: ns) := by
  subst hlo hhi
  exact (h.kept hb).addNew hn h.below.size hb.size (Nat.le_refl _)
theorem Lg.hi (h : Lg w W rs ns) {lo hi : Nat} {P : World → Prop} (hm : (lo, hi, P) ∈ ns) : lo ≤ hi ∧ hi ≤ W.heap.size := (h.new _ hm).1.2
end
end Go.Proofs.YtioldepgoodipaaGreat
