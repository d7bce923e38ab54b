/- Rows of numbers: that came in, and that a call made. -/
import Derived.Test.YtioldepgoodipaaGreatRowsAt
namespace Go.Proofs.YtioldepgoodipaaGreat
open Go.RowKit
set_option linter.unusedVariables false

/-- The numbers of a slice. -/
def NumsIn (w : World) (a : Option Addr) (l : List Int) : Prop :=
  l = [] ∨ ∃ b o, a = some ⟨b, o, none⟩ ∧ b < w.heap.size ∧ ∀ (i : Nat) x, l[i]? = some x → w.cell? ⟨b, o + i, none⟩ = some (.int .i64 x)
/-- Each is a number of 64 bits. -/
def Nums64 (l : List Int) : Prop := ∀ x ∈ l, -9223372036854775808 ≤ x ∧ x ≤ 9223372036854775807
/-- The numbers of a row that a call made: it lies in a block from lo on and below hi, and may be written. -/
def NumsNew (lo hi : Nat) (w : World) (a : Option Addr) (l : List Int) : Prop :=
  l = [] ∨ ∃ b o, a = some ⟨b, o, none⟩ ∧ lo ≤ b ∧ b < hi ∧ b < w.heap.size ∧ (∀ j, j < l.length → w.frozen? ⟨b, o + j, none⟩ = false) ∧ ∀ (i : Nat) x, l[i]? = some x → w.cell? ⟨b, o + i, none⟩ = some (.int .i64 x)
/-- The number at a place. -/
def numAt (l : List Int) (i : Nat) : Int := l[i]?.getD 0
theorem numAt_some {l : List Int} {i : Nat} (h : i < l.length) : l[i]? = some (numAt l i) := by
  unfold numAt
  rw [List.getElem?_eq_getElem h]
  rfl
theorem numAt_64 {l : List Int} (h : Nums64 l) (i : Nat) : -9223372036854775808 ≤ numAt l i ∧ numAt l i ≤ 9223372036854775807 := by
  unfold numAt
  rcases Nat.lt_or_ge i l.length with hi | hi
  · rw [List.getElem?_eq_getElem hi]
    exact h _ (List.getElem_mem hi)
  · rw [List.getElem?_eq_none hi]
    simp
section
variable {lo hi lo' hi' B : Nat} {w w' : World} {a : Option Addr} {l : List Int}
theorem NumsIn.nil (w : World) (a : Option Addr) : NumsIn w a [] := .inl rfl
theorem NumsIn.at (h : NumsIn w a l) (hl : 0 < l.length) : ∃ b o, a = some ⟨b, o, none⟩ ∧ b < w.heap.size ∧ ∀ (i : Nat) x, l[i]? = some x → w.cell? ⟨b, o + i, none⟩ = some (.int .i64 x) := by
  rcases h with rfl | h
  · simp at hl
  · exact h
theorem NumsIn.kept (h : NumsIn w a l) (hb : Below w.heap.size w w') : NumsIn w' a l := by
  rcases h with h | ⟨b, o, rfl, hlt, hc⟩
  · exact .inl h
  · exact .inr ⟨b, o, rfl, Nat.lt_of_lt_of_le hlt hb.size, fun i x hi => (hb.cell (p := ⟨b, _, none⟩) hlt).trans (hc i x hi)⟩
theorem NumsIn.out (h : NumsIn w a l) (ho : Out lo hi w w') (hd : ∀ b o, a = some ⟨b, o, none⟩ → b < lo ∨ hi ≤ b) : NumsIn w' a l := by
  rcases h with h | ⟨b, o, rfl, hlt, hc⟩
  · exact .inl h
  · exact .inr ⟨b, o, rfl, Nat.lt_of_lt_of_le hlt ho.size, fun i x hi => (ho.cell (p := ⟨b, _, none⟩) hlt (hd b o rfl)).trans (hc i x hi)⟩
theorem NumsNew.nums (h : NumsNew lo hi w a l) : NumsIn w a l := by
  rcases h with h | ⟨b, o, rfl, _, _, hlt, _, hc⟩
  · exact .inl h
  · exact .inr ⟨b, o, rfl, hlt, hc⟩
theorem NumsNew.wide (h : NumsNew lo hi w a l) (h1 : lo' ≤ lo) (h2 : hi ≤ hi') : NumsNew lo' hi' w a l := by
  rcases h with h | ⟨b, o, rfl, h3, h4, hlt, hf, hc⟩
  · exact .inl h
  · exact .inr ⟨b, o, rfl, by omega, by omega, hlt, hf, hc⟩
theorem NumsNew.out (h : NumsNew lo hi w a l) (ho : Out lo' hi' w w') (hd : hi ≤ lo' ∨ hi' ≤ lo) : NumsNew lo hi w' a l := by
  rcases h with h | ⟨b, o, rfl, h3, h4, hlt, hf, hc⟩
  · exact .inl h
  · have hx : b < lo' ∨ hi' ≤ b := by omega
    exact .inr ⟨b, o, rfl, h3, h4, Nat.lt_of_lt_of_le hlt ho.size, fun j hj => (ho.frozen (p := ⟨b, _, none⟩) hlt hx).trans (hf j hj), fun i x hi => (ho.cell (p := ⟨b, _, none⟩) hlt hx).trans (hc i x hi)⟩
theorem NumsNew.kept (h : NumsNew lo hi w a l) (hb : Below w.heap.size w w') : NumsNew lo hi w' a l := by
  rcases h with h | ⟨b, o, rfl, h3, h4, hlt, hf, hc⟩
  · exact .inl h
  · exact .inr ⟨b, o, rfl, h3, h4, Nat.lt_of_lt_of_le hlt hb.size, fun j hj => (hb.frozen (p := ⟨b, _, none⟩) hlt).trans (hf j hj), fun i x hi => (hb.cell (p := ⟨b, _, none⟩) hlt).trans (hc i x hi)⟩
theorem NumsNew.nil (a : Option Addr) : NumsNew lo hi w a [] := .inl rfl
end
/-- The cells of some numbers. -/
def ncells (l : List Int) : List Value := l.map (Value.int .i64)
theorem ncells_length (l : List Int) : (ncells l).length = l.length := by simp [ncells]
theorem ncells_append (l m : List Int) : ncells (l ++ m) = ncells l ++ ncells m := by simp [ncells]
theorem ncells_one (l : List Int) : ∀ u ∈ ncells l, u.oneCell' = true := by
  intro u hu
  simp [ncells] at hu
  obtain ⟨b, _, rfl⟩ := hu
  rfl
theorem ncells_at (l : List Int) (i : Nat) (x : Int) (h : l[i]? = some x) : (ncells l)[i]? = some (.int .i64 x) := by
  simp [ncells, h]
/-- What an append takes in. -/
theorem nums_cells {w : World} {b o : Nat} {l : List Int} (hc : ∀ (i : Nat) x, l[i]? = some x → w.cell? ⟨b, o + i, none⟩ = some (.int .i64 x)) :
    ∀ j u, (ncells l)[j]? = some u → w.cell? ((⟨b, o, none⟩ : Addr).add j) = some u := by
  intro j u h
  have e : (⟨b, o, none⟩ : Addr).add j = ⟨b, o + j, none⟩ := by unfold Addr.add; split <;> simp_all
  rw [e]
  simp [ncells] at h
  obtain ⟨x, hx, rfl⟩ := h
  exact hc j x hx
/-- A row that the call owns, read as numbers. -/
theorem NumsNew.of_owns {w : World} {base : Nat} {e : TypeId} {v : Value} {l : List Int} (h : w.ownsRow base e 1 v l.length (ncells l)) : ∃ a cap, v = .slice a l.length cap ∧ l.length ≤ cap ∧ NumsNew base w.heap.size w a l := by
  have h' := h
  rcases h.2 with ⟨rfl, hn⟩ | ⟨g, cap, cur, rfl, hb, hh, hcap, hm, hsz, ht⟩
  · have : l = [] := List.eq_nil_of_length_eq_zero hn
    subst this
    exact ⟨none, 0, rfl, Nat.le_refl _, .inl rfl⟩
  · have hlt := (World.ownsRow.lt h' g rfl).2
    refine ⟨some ⟨g, 0, none⟩, cap, rfl, hcap, .inr ⟨g, 0, rfl, hb, hlt, hlt, fun j hj => World.ownsRow.frozenAt h' _, fun i x hx => ?_⟩⟩
    have hi : i < l.length := (List.getElem?_eq_some_iff.1 hx).1
    rw [Nat.zero_add]
    exact (World.ownsRow.cellAt h' _ (by omega)).trans (ncells_at l i x hx)
/-- A part of a slice of numbers. -/
theorem NumsIn.drop {w : World} {b o : Nat} {l : List Int} (h : NumsIn w (some ⟨b, o, none⟩) l) (k : Nat) : NumsIn w (some ⟨b, o + k, none⟩) (l.drop k) := by
  rcases h with rfl | ⟨b', o', e, hlt, hc⟩
  · left; simp
  · simp at e
    obtain ⟨rfl, rfl⟩ := e
    refine .inr ⟨b, o + k, rfl, hlt, fun i x hx => ?_⟩
    rw [List.getElem?_drop] at hx
    have := hc (k + i) x hx
    rw [show o + k + i = o + (k + i) by omega]
    exact this
theorem NumsIn.take {w : World} {a : Option Addr} {l : List Int} (h : NumsIn w a l) (k : Nat) : NumsIn w a (l.take k) := by
  rcases h with rfl | ⟨b, o, rfl, hlt, hc⟩
  · left; simp
  · refine .inr ⟨b, o, rfl, hlt, fun i x hx => hc i x ?_⟩
    rw [List.getElem?_take] at hx
    split at hx
    · exact hx
    · cases hx
end Go.Proofs.YtioldepgoodipaaGreat
