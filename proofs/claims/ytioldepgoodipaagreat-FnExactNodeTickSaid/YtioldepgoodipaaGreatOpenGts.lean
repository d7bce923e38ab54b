/- A slice of Gots that came in. -/
import Derived.Test.YtioldepgoodipaaGreatGts
import Derived.Test.YtioldepgoodipaaGreatOpen
namespace Go.Proofs.YtioldepgoodipaaGreat
open Go.RowKit Go.ChangeShapes Go.WideShapes Go.ChangeAt Go.Joins
set_option linter.unusedVariables false
section
variable {H : Type} {enc : TypeId × Value → H} {w : World} {base : Nat} {spare : Nat → Bool} {held : Bool} {b0 : Nat} {r : Reach} {v : Value} {d : DataW H} {ps : List MemPlace}
def GtOk (x : Gt) : Prop := I64 x.s ∧ I64 x.p ∧ x.dt.size ≤ maxLen
/-- The value is a slice of them. -/
def IsGts (w : World) (v : Value) : Prop := ∃ (a : Option Addr) (cap : Nat) (l : List Gt), v = .slice a l.length cap ∧ RsIn gtL 3 w a l ∧ (∀ x ∈ l, GtOk x) ∧ l.length ≤ maxLen
theorem cells_rowGt : Tryz.prog.cellsOf 138 = 3 := by kernel_rfl
theorem cells_strGt : Tryz.prog.cellsOf 9 = 1 := by kernel_rfl
theorem cells_intGt : Tryz.prog.cellsOf 2 = 1 := by kernel_rfl
theorem list_Gt {α : Type} {l : List α} (h : l.length = 3) : ∃ x0 x1 x2, l = [x0, x1, x2] := by
  match l, h with
  | [x0, x1, x2], _ => exact ⟨x0, x1, x2, rfl⟩
set_option maxRecDepth 100000 in
theorem Gt_of_trod {fuel : Nat} {cs : List Value} {x : DataW H × List MemPlace} (hl : cs.length = 3) (hf : DataW.trod enc Tryz.prog w base spare held fuel 138 cs = some x) :
    ∃ y : Gt, cs = gtL y ∧ GtOk y := by
  obtain ⟨c0, c1, c2, rfl⟩ := list_Gt hl
  obtain ⟨xs, n, _, _, _, hlen, hall⟩ := DataW.trod_struct Tryz.underlying138 hf
  obtain ⟨y0, y1, y2, rfl⟩ := list_Gt (by simpa using hlen)
  have h0 := hall 0 _ rfl
  have h1 := hall 1 _ rfl
  have h2 := hall 2 _ rfl
  clear hall hf hlen
  obtain ⟨a0, e0, _, w0⟩ := DataW.trod_int Tryz.underlying2 h0
  obtain ⟨a1, e1, _, w1⟩ := DataW.trod_int Tryz.underlying2 h1
  obtain ⟨a2, e2, _, w2⟩ := DataW.trod_string Tryz.underlying9 h2
  simp [cells_intGt, cells_strGt] at e0 e1 e2
  subst e0 e1 e2
  exact ⟨⟨a0, a1, a2⟩, rfl, I64.of_wf w0, I64.of_wf w1, w2⟩
set_option maxRecDepth 100000 in
theorem Gts_of_trod {fuel : Nat} {cs : List Value} {x : DataW H × List MemPlace} (hf : DataW.trod enc Tryz.prog w base spare held fuel 32 cs = some x) :
    ∃ (a : Option Addr) (cap : Nat) (l : List Gt), cs = [.slice a l.length cap] ∧ RsIn gtL 3 w a l ∧ (∀ x ∈ l, GtOk x) ∧ l.length ≤ maxLen := by
  rcases DataW.trod_slice Tryz.underlying32 hf with ⟨hcs, _⟩ | ⟨a', len', cap', elems, rest, n, _, hcs, _, hb, hl, hm, hlen, hel, _, _⟩
  · subst hcs
    exact ⟨none, 0, [], rfl, .inl rfl, (by intro x hx; cases hx), by simp⟩
  · subst hcs
    have each : ∀ i, i < len' → ∃ x : Gt, GtOk x ∧ a'.block < w.heap.size ∧ ∀ (j : Nat) v, (gtL x)[j]? = some v → w.cell? ((a'.add (i * 3)).add j) = some v := by
      intro i hi
      have := hel i hi
      rw [List.getElem?_eq_getElem (by omega), Option.bind_eq_some_iff, cells_rowGt] at this
      obtain ⟨cs', hcs, hy⟩ := this
      have hbk := World.cells?_block hcs (by omega)
      obtain ⟨_, hl2, hq⟩ := World.cells?_some hcs
      obtain ⟨x, rfl, hx⟩ := Gt_of_trod hl2 hy
      refine ⟨x, hx, ?_, fun j v hv => ?_⟩
      · have : (a'.add (i * 3)).block = a'.block := by unfold Addr.add; split <;> rfl
        rwa [this] at hbk
      · have hj := (List.getElem?_eq_some_iff.1 hv).1
        rw [hl2] at hj
        have := hq j hj
        rwa [hv] at this
    obtain ⟨l, hl, hp⟩ := list_of len' each
    subst hl
    refine ⟨some a', cap', l, rfl, ?_, ?_, by omega⟩
    · rcases l with _ | ⟨x0, l⟩
      · exact .inl rfl
      right
      have h0 := hp 0 x0 rfl
      obtain ⟨b, o, sp⟩ := a'
      have hsp : sp = none := by simpa [Addr.add] using World.cell?_spot (h0.2.2 0 _ rfl)
      subst hsp
      have hadd : ∀ b o i, (⟨b, o, none⟩ : Addr).add i = ⟨b, o + i, none⟩ := fun b o i => by unfold Addr.add; split <;> simp_all
      refine ⟨b, o, rfl, h0.2.1, fun i x hx j v hv => ?_⟩
      have := (hp i x hx).2.2 j v hv
      rwa [hadd, hadd] at this
    · intro x hx
      obtain ⟨i, hi⟩ := List.getElem?_of_mem hx
      exact (hp i x hi).1
set_option maxRecDepth 100000 in
theorem open_Gts (hv : Value.okWide Tryz.prog w r b0 32 v) (h : DataW.Trod enc Tryz.prog w base spare held 32 v d ps) : IsGts w v := by
  obtain ⟨a, len, cap, rfl⟩ := okWide_slice Tryz.underlying32 hv
  obtain ⟨fuel, hf⟩ := h
  obtain ⟨a', cap', l, he, h1, h2, h3⟩ := Gts_of_trod hf
  simp [Value.cells] at he
  obtain ⟨rfl, rfl, rfl⟩ := he
  exact ⟨a, cap, l, rfl, h1, h2, h3⟩
end
end Go.Proofs.YtioldepgoodipaaGreat
