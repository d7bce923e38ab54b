/- What comes in: numbers, texts, and structs of these by value, as the laws' shells want them. -/
import Derived.Test.YtanijfmfjabmfaaOwn
import Derived.Test.YtanijfmfjabmfaaNums
import Derived.ChangeOld
import Derived.Lib.SmallJoins
import Derived.OpenShut
namespace Go.Proofs.Ytanijfmfjabmfaa
open Go.RowKit Go.ChangeShapes Go.WideShapes Go.ChangeAt Go.Joins
set_option linter.unusedVariables false

/-- A number of 64 bits. -/
def I64 (n : Int) : Prop := -9223372036854775808 ≤ n ∧ n ≤ 9223372036854775807
theorem I64.of_wf {n : Int} (h : (Lit.int .i64 n).wf = true) : I64 n := by
  simp [Lit.wf, IntKind.min, IntKind.max, IntKind.signed, IntKind.bits] at h
  unfold I64
  omega
/-- The value is a number of 64 bits. -/
def IsI64 (v : Value) : Prop := ∃ n, v = .int .i64 n ∧ I64 n
/-- The value is a text. -/
def IsStr (v : Value) : Prop := ∃ s : ByteArray, v = .string s ∧ s.size ≤ maxLen
theorem list_of {α : Type} {P : Nat → α → Prop} : ∀ n, (∀ i, i < n → ∃ x, P i x) → ∃ l : List α, l.length = n ∧ ∀ i x, l[i]? = some x → P i x
  | 0, _ => ⟨[], rfl, fun i x h => by simp at h⟩
  | n + 1, h => by
    obtain ⟨l, hl, hp⟩ := list_of n fun i hi => h i (by omega)
    obtain ⟨x, hx⟩ := h n (by omega)
    refine ⟨l ++ [x], by simp [hl], fun i y hy => ?_⟩
    rcases Nat.lt_or_ge i n with h' | h'
    · rw [List.getElem?_append_left (by omega)] at hy
      exact hp i y hy
    · have hi : i < (l ++ [x]).length := (List.getElem?_eq_some_iff.1 hy).1
      have hin : i = n := by simp at hi; omega
      subst hin
      rw [List.getElem?_append_right (by omega), hl] at hy
      simp at hy
      subst hy
      exact hx
section
variable {H : Type} {enc : TypeId × Value → H} {w : World} {base : Nat} {spare : Nat → Bool} {held : Bool} {b0 : Nat} {r : Reach} {v : Value} {d : DataW H} {ps : List MemPlace}
set_option maxRecDepth 100000 in
theorem open_I64 {t : TypeId} (ht : Try.prog.underlying t = some (.int .i64)) (hv : Value.okWide Try.prog w r b0 t v) (h : DataW.Trod enc Try.prog w base spare held t v d ps) : IsI64 v := by
  obtain ⟨a, rfl, _, _, w0⟩ := open_int ht hv h
  exact ⟨a, rfl, .of_wf w0⟩
set_option maxRecDepth 100000 in
theorem open_Str {t : TypeId} (ht : Try.prog.underlying t = some .string) (hv : Value.okWide Try.prog w r b0 t v) (h : DataW.Trod enc Try.prog w base spare held t v d ps) : IsStr v := by
  obtain ⟨a, rfl, _, _, w0⟩ := Go.ChangeMaps.open_string ht hv h
  exact ⟨a, rfl, w0⟩

theorem cells_num : Try.prog.cellsOf 2 = 1 := by kernel_rfl
set_option maxRecDepth 100000 in
theorem nums_of_trod {fuel : Nat} {cs : List Value} {x : DataW H × List MemPlace} (hf : DataW.trod enc Try.prog w base spare held fuel 25 cs = some x) :
    ∃ (a : Option Addr) (cap : Nat) (l : List Int), cs = [.slice a l.length cap] ∧ NumsIn w a l ∧ Nums64 l ∧ l.length ≤ maxLen := by
  rcases DataW.trod_slice Try.underlying25 hf with ⟨hcs, _⟩ | ⟨a', len', cap', elems, rest, n, _, hcs, _, hb, hl, hm, hlen, hel, _, _⟩
  · subst hcs
    exact ⟨none, 0, [], rfl, .inl rfl, (by intro x hx; cases hx), by simp⟩
  · subst hcs
    have each : ∀ i, i < len' → ∃ x : Int, I64 x ∧ a'.block < w.heap.size ∧ w.cell? ((a'.add (i * 1)).add 0) = some (.int .i64 x) := by
      intro i hi
      have := hel i hi
      rw [List.getElem?_eq_getElem (by omega), Option.bind_eq_some_iff, cells_num] at this
      obtain ⟨cs', hcs, hy⟩ := this
      obtain ⟨p, e0, _, wp⟩ := DataW.trod_int Try.underlying2 hy
      have hbk := World.cells?_block hcs (by omega)
      obtain ⟨_, hl2, hq⟩ := World.cells?_some hcs
      subst e0
      refine ⟨p, .of_wf wp, ?_, hq 0 (by omega)⟩
      have : (a'.add (i * 1)).block = a'.block := by unfold Addr.add; split <;> rfl
      rwa [this] at hbk
    obtain ⟨l, hl, hp⟩ := list_of len' each
    subst hl
    refine ⟨some a', cap', l, rfl, ?_, ?_, by omega⟩
    · rcases l with _ | ⟨x0, l⟩
      · exact .inl rfl
      right
      have h0 := hp 0 x0 rfl
      obtain ⟨b, o, sp⟩ := a'
      have hsp : sp = none := by simpa [Addr.add] using World.cell?_spot h0.2.2
      subst hsp
      have hadd : ∀ i, (⟨b, o, none⟩ : Addr).add i = ⟨b, o + i, none⟩ := fun i => by unfold Addr.add; split <;> simp_all
      refine ⟨b, o, rfl, h0.2.1, fun i x hx => ?_⟩
      have := hp i x hx
      rw [hadd] at this
      simpa [Addr.add] using this.2.2
    · intro x hx
      obtain ⟨i, hi⟩ := List.getElem?_of_mem hx
      exact (hp i x hi).1
end
end Go.Proofs.Ytanijfmfjabmfaa
