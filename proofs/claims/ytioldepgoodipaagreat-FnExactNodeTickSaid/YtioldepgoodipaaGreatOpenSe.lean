/- A slice of Sessions that came in. -/
import Derived.Test.YtioldepgoodipaaGreatSesTo
import Derived.Test.YtioldepgoodipaaGreatOpen
namespace Go.Proofs.YtioldepgoodipaaGreat
open Go.RowKit Go.ChangeShapes Go.WideShapes Go.ChangeAt Go.Joins
set_option linter.unusedVariables false
section
variable {H : Type} {enc : TypeId × Value → H} {w : World} {base : Nat} {spare : Nat → Bool} {held : Bool} {b0 : Nat} {r : Reach} {v : Value} {d : DataW H} {ps : List MemPlace}
/-- The value is a slice of Sessions. -/
def IsSes (w : World) (v : Value) : Prop := ∃ (a : Option Addr) (cap : Nat) (l : List Se), v = .slice a l.length cap ∧ RsIn seL 7 w a l ∧ SesOk l ∧ l.length ≤ maxLen
theorem cells_Se : Tryz.prog.cellsOf 135 = 7 := by kernel_rfl
theorem cells_seInt : Tryz.prog.cellsOf 2 = 1 := by kernel_rfl
theorem cells_seStr : Tryz.prog.cellsOf 9 = 1 := by kernel_rfl
theorem list7 {α : Type} {l : List α} (h : l.length = 7) : ∃ x0 x1 x2 x3 x4 x5 x6, l = [x0, x1, x2, x3, x4, x5, x6] := by
  match l, h with
  | [x0, x1, x2, x3, x4, x5, x6], _ => exact ⟨x0, x1, x2, x3, x4, x5, x6, rfl⟩
set_option maxRecDepth 100000 in
theorem se_of_trod {fuel : Nat} {cs : List Value} {x : DataW H × List MemPlace} (hl : cs.length = 7) (hf : DataW.trod enc Tryz.prog w base spare held fuel 135 cs = some x) :
    ∃ y : Se, cs = seL y ∧ SeOk y := by
  obtain ⟨c0, c1, c2, c3, c4, c5, c6, rfl⟩ := list7 hl
  obtain ⟨xs, n, _, _, _, hlen, hall⟩ := DataW.trod_struct Tryz.underlying135 hf
  obtain ⟨y0, y1, y2, y3, y4, y5, y6, rfl⟩ := list7 (by simpa using hlen)
  have h0 := hall 0 _ rfl
  have h1 := hall 1 _ rfl
  have h2 := hall 2 _ rfl
  have h3 := hall 3 _ rfl
  have h4 := hall 4 _ rfl
  have h5 := hall 5 _ rfl
  have h6 := hall 6 _ rfl
  clear hall hf hlen
  obtain ⟨a0, e0, _, w0⟩ := DataW.trod_int Tryz.underlying2 h0
  obtain ⟨a1, e1, _, w1⟩ := DataW.trod_int Tryz.underlying2 h1
  obtain ⟨a2, e2, _, w2⟩ := DataW.trod_int Tryz.underlying2 h2
  obtain ⟨a3, e3, _, w3⟩ := DataW.trod_int Tryz.underlying2 h3
  obtain ⟨a4, e4, _, w4⟩ := DataW.trod_int Tryz.underlying2 h4
  obtain ⟨a5, e5, _, w5⟩ := DataW.trod_string Tryz.underlying9 h5
  obtain ⟨a6, e6, _, w6⟩ := DataW.trod_int Tryz.underlying2 h6
  simp [cells_seInt, cells_seStr] at e0 e1 e2 e3 e4 e5 e6
  subst e0 e1 e2 e3 e4 e5 e6
  exact ⟨⟨a0, a1, a2, a3, a4, a5, a6⟩, rfl, I64.of_wf w0, I64.of_wf w1, I64.of_wf w2, I64.of_wf w3, I64.of_wf w4, w5, I64.of_wf w6⟩
set_option maxRecDepth 100000 in
theorem ses_of_trod {fuel : Nat} {cs : List Value} {x : DataW H × List MemPlace} (hf : DataW.trod enc Tryz.prog w base spare held fuel 30 cs = some x) :
    ∃ (a : Option Addr) (cap : Nat) (l : List Se), cs = [.slice a l.length cap] ∧ RsIn seL 7 w a l ∧ SesOk l ∧ l.length ≤ maxLen := by
  rcases DataW.trod_slice Tryz.underlying30 hf with ⟨hcs, _⟩ | ⟨a', len', cap', elems, rest, n, _, hcs, _, hb, hl, hm, hlen, hel, _, _⟩
  · subst hcs
    exact ⟨none, 0, [], rfl, .inl rfl, (by intro x hx; cases hx), by simp⟩
  · subst hcs
    have each : ∀ i, i < len' → ∃ x : Se, SeOk x ∧ a'.block < w.heap.size ∧ ∀ (j : Nat) v, (seL x)[j]? = some v → w.cell? ((a'.add (i * 7)).add j) = some v := by
      intro i hi
      have := hel i hi
      rw [List.getElem?_eq_getElem (by omega), Option.bind_eq_some_iff, cells_Se] at this
      obtain ⟨cs', hcs, hy⟩ := this
      have hbk := World.cells?_block hcs (by omega)
      obtain ⟨_, hl2, hq⟩ := World.cells?_some hcs
      obtain ⟨x, rfl, hx⟩ := se_of_trod hl2 hy
      refine ⟨x, hx, ?_, fun j v hv => ?_⟩
      · have : (a'.add (i * 7)).block = a'.block := by unfold Addr.add; split <;> rfl
        rwa [this] at hbk
      · have hj := (List.getElem?_eq_some_iff.1 hv).1
        rw [hl2] at hj
        have := hq j hj
        rwa [hv] at this
    obtain ⟨l, hl, hp⟩ := list_of len' each
    subst hl
    refine ⟨some a', cap', l, rfl, ?_, ?_, by omega⟩
    · rcases l with _ | ⟨x0, l⟩
      · exact .inl rfl
      right
      have h0 := hp 0 x0 rfl
      obtain ⟨b, o, sp⟩ := a'
      have hsp : sp = none := by simpa [Addr.add] using World.cell?_spot (h0.2.2 0 _ rfl)
      subst hsp
      have hadd : ∀ b o i, (⟨b, o, none⟩ : Addr).add i = ⟨b, o + i, none⟩ := fun b o i => by unfold Addr.add; split <;> simp_all
      refine ⟨b, o, rfl, h0.2.1, fun i x hx j v hv => ?_⟩
      have := (hp i x hx).2.2 j v hv
      rwa [hadd, hadd] at this
    · intro x hx
      obtain ⟨i, hi⟩ := List.getElem?_of_mem hx
      exact (hp i x hi).1
set_option maxRecDepth 100000 in
theorem open_Ses (hv : Value.okWide Tryz.prog w r b0 30 v) (h : DataW.Trod enc Tryz.prog w base spare held 30 v d ps) : IsSes w v := by
  obtain ⟨a, len, cap, rfl⟩ := okWide_slice Tryz.underlying30 hv
  obtain ⟨fuel, hf⟩ := h
  obtain ⟨a', cap', l, he, h1, h2, h3⟩ := ses_of_trod hf
  simp [Value.cells] at he
  obtain ⟨rfl, rfl, rfl⟩ := he
  exact ⟨a, cap, l, rfl, h1, h2, h3⟩
end
end Go.Proofs.YtioldepgoodipaaGreat
