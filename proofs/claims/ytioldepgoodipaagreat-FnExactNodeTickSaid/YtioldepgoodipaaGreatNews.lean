/- Rows of Cans that a call made, and what a call leaves alone that writes into one of them. -/
import Derived.Test.YtioldepgoodipaaGreatCans
import Derived.Test.YtioldepgoodipaaGreatRowsAt
import Derived.Laws.IdiomStrings
namespace Go.Proofs.YtioldepgoodipaaGreat
open Go.RowKit
set_option linter.unusedVariables false

/-- The Cans of a row that a call made: it lies in a block from lo on and below hi, and may be written. -/
def NewIn (lo hi : Nat) (w : World) (a : Option Addr) (l : List (Int × ByteArray)) : Prop :=
  l = [] ∨ ∃ b o, a = some ⟨b, o, none⟩ ∧ lo ≤ b ∧ b < hi ∧ b < w.heap.size ∧ (∀ j, j < l.length * 2 → w.frozen? ⟨b, o + j, none⟩ = false) ∧ ∀ (i : Nat) x, l[i]? = some x → w.cell? ⟨b, o + i * 2, none⟩ = some (.int .i64 x.1) ∧ w.cell? ⟨b, o + i * 2 + 1, none⟩ = some (.string x.2)
section
variable {lo hi lo' hi' B : Nat} {w w' : World} {a : Option Addr} {l : List (Int × ByteArray)}
theorem NewIn.cans (h : NewIn lo hi w a l) : CansIn w a l := by
  rcases h with h | ⟨b, o, rfl, _, _, hlt, _, hc⟩
  · exact .inl h
  · exact .inr ⟨b, o, rfl, hlt, hc⟩
theorem NewIn.wide (h : NewIn lo hi w a l) (h1 : lo' ≤ lo) (h2 : hi ≤ hi') : NewIn lo' hi' w a l := by
  rcases h with h | ⟨b, o, rfl, h3, h4, hlt, hf, hc⟩
  · exact .inl h
  · exact .inr ⟨b, o, rfl, by omega, by omega, hlt, hf, hc⟩
theorem NewIn.out (h : NewIn lo hi w a l) (ho : Out lo' hi' w w') (hd : hi ≤ lo' ∨ hi' ≤ lo) : NewIn lo hi w' a l := by
  rcases h with h | ⟨b, o, rfl, h3, h4, hlt, hf, hc⟩
  · exact .inl h
  · have hx : b < lo' ∨ hi' ≤ b := by omega
    exact .inr ⟨b, o, rfl, h3, h4, Nat.lt_of_lt_of_le hlt ho.size, fun j hj => (ho.frozen (p := ⟨b, _, none⟩) hlt hx).trans (hf j hj),
      fun i x hi => ⟨(ho.cell (p := ⟨b, _, none⟩) hlt hx).trans (hc i x hi).1, (ho.cell (p := ⟨b, _, none⟩) hlt hx).trans (hc i x hi).2⟩⟩
theorem NewIn.kept (h : NewIn lo hi w a l) (hb : Below w.heap.size w w') : NewIn lo hi w' a l := by
  rcases h with h | ⟨b, o, rfl, h3, h4, hlt, hf, hc⟩
  · exact .inl h
  · exact .inr ⟨b, o, rfl, h3, h4, Nat.lt_of_lt_of_le hlt hb.size, fun j hj => (hb.frozen (p := ⟨b, _, none⟩) hlt).trans (hf j hj),
      fun i x hi => ⟨(hb.cell (p := ⟨b, _, none⟩) hlt).trans (hc i x hi).1, (hb.cell (p := ⟨b, _, none⟩) hlt).trans (hc i x hi).2⟩⟩
theorem NewIn.nil (a : Option Addr) : NewIn lo hi w a [] := .inl rfl
end

/-- The cells of some Cans. -/
def ccells : List (Int × ByteArray) → List Value
  | [] => []
  | x :: l => .int .i64 x.1 :: .string x.2 :: ccells l
theorem ccells_length (l : List (Int × ByteArray)) : (ccells l).length = l.length * 2 := by
  induction l with
  | nil => rfl
  | cons x l ih => simp [ccells, ih]; omega
theorem ccells_append (l m : List (Int × ByteArray)) : ccells (l ++ m) = ccells l ++ ccells m := by
  induction l with
  | nil => rfl
  | cons x l ih => simp [ccells, ih]
theorem ccells_one (l : List (Int × ByteArray)) : ∀ u ∈ ccells l, u.oneCell' = true := by
  induction l with
  | nil => intro u hu; cases hu
  | cons x l ih =>
    intro u hu
    simp [ccells] at hu
    rcases hu with rfl | rfl | hu
    · rfl
    · rfl
    · exact ih u hu
theorem ccells_at (l : List (Int × ByteArray)) : ∀ (i : Nat) x, l[i]? = some x → (ccells l)[i * 2]? = some (.int .i64 x.1) ∧ (ccells l)[i * 2 + 1]? = some (.string x.2) := by
  induction l with
  | nil => intro i x h; simp at h
  | cons y l ih =>
    intro i x h
    rcases i with _ | i
    · simp at h
      subst h
      simp [ccells]
    · simp at h
      have := ih i x h
      rw [show (i + 1) * 2 = i * 2 + 1 + 1 by omega]
      simpa [ccells] using this
theorem ccells_back (l : List (Int × ByteArray)) : ∀ (j : Nat) u, (ccells l)[j]? = some u → ∃ i x, l[i]? = some x ∧ ((j = i * 2 ∧ u = .int .i64 x.1) ∨ (j = i * 2 + 1 ∧ u = .string x.2)) := by
  induction l with
  | nil => intro j u h; simp [ccells] at h
  | cons y l ih =>
    intro j u h
    rcases j with _ | _ | j
    · simp [ccells] at h
      exact ⟨0, y, rfl, .inl ⟨rfl, h.symm⟩⟩
    · simp [ccells] at h
      exact ⟨0, y, rfl, .inr ⟨rfl, h.symm⟩⟩
    · simp [ccells] at h
      obtain ⟨i, x, hx, ⟨rfl, h1⟩ | ⟨rfl, h1⟩⟩ := ih j u h
      · exact ⟨i + 1, x, by simpa using hx, .inl ⟨by omega, h1⟩⟩
      · exact ⟨i + 1, x, by simpa using hx, .inr ⟨by omega, h1⟩⟩
/-- What an append takes in. -/
theorem cans_cells {w : World} {b o : Nat} {l : List (Int × ByteArray)} (hc : ∀ (i : Nat) x, l[i]? = some x → w.cell? ⟨b, o + i * 2, none⟩ = some (.int .i64 x.1) ∧ w.cell? ⟨b, o + i * 2 + 1, none⟩ = some (.string x.2)) :
    ∀ j u, (ccells l)[j]? = some u → w.cell? ((⟨b, o, none⟩ : Addr).add j) = some u := by
  intro j u h
  have e : (⟨b, o, none⟩ : Addr).add j = ⟨b, o + j, none⟩ := by unfold Addr.add; split <;> simp_all
  rw [e]
  obtain ⟨i, x, hx, ⟨rfl, rfl⟩ | ⟨rfl, rfl⟩⟩ := ccells_back l j u h
  · exact (hc i x hx).1
  · exact (hc i x hx).2
/-- A row that the call owns, read as Cans. -/
theorem NewIn.of_owns {w : World} {base : Nat} {e : TypeId} {v : Value} {l : List (Int × ByteArray)} (h : w.ownsRow base e 2 v l.length (ccells l)) : ∃ a cap, v = .slice a l.length cap ∧ l.length ≤ cap ∧ NewIn base w.heap.size w a l := by
  have h' := h
  rcases h.2 with ⟨rfl, hn⟩ | ⟨g, cap, cur, rfl, hb, hh, hcap, hm, hsz, ht⟩
  · have : l = [] := List.eq_nil_of_length_eq_zero hn
    subst this
    exact ⟨none, 0, rfl, Nat.le_refl _, .inl rfl⟩
  · have hlt := (World.ownsRow.lt h' g rfl).2
    refine ⟨some ⟨g, 0, none⟩, cap, rfl, hcap, .inr ⟨g, 0, rfl, hb, hlt, hlt, fun j hj => World.ownsRow.frozenAt h' _, fun i x hx => ?_⟩⟩
    have hi : i < l.length := (List.getElem?_eq_some_iff.1 hx).1
    have hc := ccells_at l i x hx
    rw [Nat.zero_add]
    exact ⟨(World.ownsRow.cellAt h' _ (by omega)).trans hc.1, (World.ownsRow.cellAt h' _ (by omega)).trans hc.2⟩
end Go.Proofs.YtioldepgoodipaaGreat
