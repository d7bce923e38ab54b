/- A slice of Devices that came in. -/
import Derived.Test.YtioldepgoodipaaGreatDvs
import Derived.Test.YtioldepgoodipaaGreatOpen
namespace Go.Proofs.YtioldepgoodipaaGreat
open Go.RowKit Go.ChangeShapes Go.WideShapes Go.ChangeAt Go.Joins
set_option linter.unusedVariables false
section
variable {H : Type} {enc : TypeId × Value → H} {w : World} {base : Nat} {spare : Nat → Bool} {held : Bool} {b0 : Nat} {r : Reach} {v : Value} {d : DataW H} {ps : List MemPlace}
def DvOk (x : Dv) : Prop := (I64 x.n.u ∧ I64 x.n.m ∧ I64 x.n.i ∧ I64 x.n.f ∧ I64 x.n.c ∧ I64 x.n.s ∧ I64 x.n.y) ∧ I64 x.ad ∧ I64 x.g
/-- The value is a slice of them. -/
def IsDvs (w : World) (v : Value) : Prop := ∃ (a : Option Addr) (cap : Nat) (l : List Dv), v = .slice a l.length cap ∧ RsIn dvL 10 w a l ∧ (∀ x ∈ l, DvOk x) ∧ l.length ≤ maxLen
theorem cells_rowDv : Tryz.prog.cellsOf 165 = 10 := by kernel_rfl
theorem cells_intDv : Tryz.prog.cellsOf 2 = 1 := by kernel_rfl
theorem list_Dv {α : Type} {l : List α} (h : l.length = 10) : ∃ x0 x1 x2 x3 x4 x5 x6 x7 x8 x9, l = [x0, x1, x2, x3, x4, x5, x6, x7, x8, x9] := by
  match l, h with
  | [x0, x1, x2, x3, x4, x5, x6, x7, x8, x9], _ => exact ⟨x0, x1, x2, x3, x4, x5, x6, x7, x8, x9, rfl⟩
theorem list_Dv3 {α : Type} {l : List α} (h : l.length = 3) : ∃ x0 x1 x2, l = [x0, x1, x2] := by
  match l, h with
  | [x0, x1, x2], _ => exact ⟨x0, x1, x2, rfl⟩
set_option maxRecDepth 100000 in
theorem Dv_of_trod {fuel : Nat} {cs : List Value} {x : DataW H × List MemPlace} (hl : cs.length = 10) (hf : DataW.trod enc Tryz.prog w base spare held fuel 165 cs = some x) :
    ∃ y : Dv, cs = dvL y ∧ DvOk y := by
  obtain ⟨c0, c1, c2, c3, c4, c5, c6, c7, c8, c9, rfl⟩ := list_Dv hl
  obtain ⟨xs, n, _, _, _, hlen, hall⟩ := DataW.trod_struct Tryz.underlying165 hf
  obtain ⟨y0, y1, y2, rfl⟩ := list_Dv3 (by simpa using hlen)
  have h0 := hall 0 _ rfl
  have h1 := hall 1 _ rfl
  have h2 := hall 2 _ rfl
  clear hall hf hlen
  simp [cells_Nm, cells_intDv] at h0 h1 h2
  obtain ⟨m, rfl, rfl, rfl, rfl, rfl, rfl, rfl, rfl, hm⟩ := nm_of_trod h0
  obtain ⟨ad, e1, _, w1⟩ := DataW.trod_int Tryz.underlying2 h1
  obtain ⟨g, e2, _, w2⟩ := DataW.trod_int Tryz.underlying2 h2
  simp at e1 e2
  subst e1 e2
  exact ⟨⟨m, ad, g⟩, rfl, hm, I64.of_wf w1, I64.of_wf w2⟩
set_option maxRecDepth 100000 in
theorem Dvs_of_trod {fuel : Nat} {cs : List Value} {x : DataW H × List MemPlace} (hf : DataW.trod enc Tryz.prog w base spare held fuel 31 cs = some x) :
    ∃ (a : Option Addr) (cap : Nat) (l : List Dv), cs = [.slice a l.length cap] ∧ RsIn dvL 10 w a l ∧ (∀ x ∈ l, DvOk x) ∧ l.length ≤ maxLen := by
  rcases DataW.trod_slice Tryz.underlying31 hf with ⟨hcs, _⟩ | ⟨a', len', cap', elems, rest, n, _, hcs, _, hb, hl, hm, hlen, hel, _, _⟩
  · subst hcs
    exact ⟨none, 0, [], rfl, .inl rfl, (by intro x hx; cases hx), by simp⟩
  · subst hcs
    have each : ∀ i, i < len' → ∃ x : Dv, DvOk x ∧ a'.block < w.heap.size ∧ ∀ (j : Nat) v, (dvL x)[j]? = some v → w.cell? ((a'.add (i * 10)).add j) = some v := by
      intro i hi
      have := hel i hi
      rw [List.getElem?_eq_getElem (by omega), Option.bind_eq_some_iff, cells_rowDv] at this
      obtain ⟨cs', hcs, hy⟩ := this
      have hbk := World.cells?_block hcs (by omega)
      obtain ⟨_, hl2, hq⟩ := World.cells?_some hcs
      obtain ⟨x, rfl, hx⟩ := Dv_of_trod hl2 hy
      refine ⟨x, hx, ?_, fun j v hv => ?_⟩
      · have : (a'.add (i * 10)).block = a'.block := by unfold Addr.add; split <;> rfl
        rwa [this] at hbk
      · have hj := (List.getElem?_eq_some_iff.1 hv).1
        rw [hl2] at hj
        have := hq j hj
        rwa [hv] at this
    obtain ⟨l, hl, hp⟩ := list_of len' each
    subst hl
    refine ⟨some a', cap', l, rfl, ?_, ?_, by omega⟩
    · rcases l with _ | ⟨x0, l⟩
      · exact .inl rfl
      right
      have h0 := hp 0 x0 rfl
      obtain ⟨b, o, sp⟩ := a'
      have hsp : sp = none := by simpa [Addr.add] using World.cell?_spot (h0.2.2 0 _ rfl)
      subst hsp
      have hadd : ∀ b o i, (⟨b, o, none⟩ : Addr).add i = ⟨b, o + i, none⟩ := fun b o i => by unfold Addr.add; split <;> simp_all
      refine ⟨b, o, rfl, h0.2.1, fun i x hx j v hv => ?_⟩
      have := (hp i x hx).2.2 j v hv
      rwa [hadd, hadd] at this
    · intro x hx
      obtain ⟨i, hi⟩ := List.getElem?_of_mem hx
      exact (hp i x hi).1
set_option maxRecDepth 100000 in
theorem open_Dvs (hv : Value.okWide Tryz.prog w r b0 31 v) (h : DataW.Trod enc Tryz.prog w base spare held 31 v d ps) : IsDvs w v := by
  obtain ⟨a, len, cap, rfl⟩ := okWide_slice Tryz.underlying31 hv
  obtain ⟨fuel, hf⟩ := h
  obtain ⟨a', cap', l, he, h1, h2, h3⟩ := Dvs_of_trod hf
  simp [Value.cells] at he
  obtain ⟨rfl, rfl, rfl⟩ := he
  exact ⟨a, cap, l, rfl, h1, h2, h3⟩
end
end Go.Proofs.YtioldepgoodipaaGreat
