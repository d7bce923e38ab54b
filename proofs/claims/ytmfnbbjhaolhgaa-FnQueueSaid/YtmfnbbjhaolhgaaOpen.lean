/- What comes in: numbers, texts, and structs of these by value, as the laws' shells want them. -/
import Derived.Test.YtmfnbbjhaolhgaaOwn
import Derived.Test.YtmfnbbjhaolhgaaCans
import Derived.ChangeOld
import Derived.Lib.SmallJoins
import Derived.OpenShut
namespace Go.Proofs.Ytmfnbbjhaolhgaa
open Go.RowKit Go.ChangeShapes Go.WideShapes Go.ChangeAt Go.Joins
set_option linter.unusedVariables false

/-- A number of 64 bits. -/
def I64 (n : Int) : Prop := -9223372036854775808 ≤ n ∧ n ≤ 9223372036854775807
theorem I64.of_wf {n : Int} (h : (Lit.int .i64 n).wf = true) : I64 n := by
  simp [Lit.wf, IntKind.min, IntKind.max, IntKind.signed, IntKind.bits] at h
  unfold I64
  omega
/-- The value is a number of 64 bits. -/
def IsI64 (v : Value) : Prop := ∃ n, v = .int .i64 n ∧ I64 n
/-- The value is a text. -/
def IsStr (v : Value) : Prop := ∃ s : ByteArray, v = .string s ∧ s.size ≤ maxLen
section
variable {H : Type} {enc : TypeId × Value → H} {w : World} {base : Nat} {spare : Nat → Bool} {held : Bool} {b0 : Nat} {r : Reach} {v : Value} {d : DataW H} {ps : List MemPlace}
set_option maxRecDepth 100000 in
theorem open_I64 {t : TypeId} (ht : Try.prog.underlying t = some (.int .i64)) (hv : Value.okWide Try.prog w r b0 t v) (h : DataW.Trod enc Try.prog w base spare held t v d ps) : IsI64 v := by
  obtain ⟨a, rfl, _, _, w0⟩ := open_int ht hv h
  exact ⟨a, rfl, .of_wf w0⟩
set_option maxRecDepth 100000 in
theorem open_Str {t : TypeId} (ht : Try.prog.underlying t = some .string) (hv : Value.okWide Try.prog w r b0 t v) (h : DataW.Trod enc Try.prog w base spare held t v d ps) : IsStr v := by
  obtain ⟨a, rfl, _, _, w0⟩ := Go.ChangeMaps.open_string ht hv h
  exact ⟨a, rfl, w0⟩

/-- The value is a Can. -/
def IsCan (v : Value) : Prop := ∃ n, ∃ s : ByteArray, v = .agg #[.int .i64 n, .string s] ∧ I64 n ∧ s.size ≤ maxLen
theorem cells_Can : Try.prog.cellsOf 82 = 2 := by kernel_rfl
theorem cells_int64 : Try.prog.cellsOf 2 = 1 := by kernel_rfl
theorem cells_str : Try.prog.cellsOf 9 = 1 := by kernel_rfl
set_option maxRecDepth 100000 in
theorem open_Can (hv : Value.okWide Try.prog w r b0 82 v) (h : DataW.Trod enc Try.prog w base spare held 82 v d ps) : IsCan v := by
  obtain ⟨cs, rfl, hsz⟩ := okWide_struct Try.underlying82 hv
  obtain ⟨c0, c1, rfl⟩ := array2 (hsz.trans cells_Can)
  obtain ⟨fuel, hf⟩ := h
  obtain ⟨y0, y1, n, hx, _, h0, h1⟩ := trod_struct2 Try.underlying82 hf
  obtain ⟨a, e0, _, wa⟩ := DataW.trod_int Try.underlying2 h0
  obtain ⟨s, e1, _, ws⟩ := DataW.trod_string Try.underlying9 h1
  simp [Value.cells, cells_int64, cells_str] at e0 e1
  subst e0 e1
  exact ⟨a, s, rfl, .of_wf wa, ws⟩
/-- The value is a slice of Cans. -/
def IsCans (w : World) (v : Value) : Prop := ∃ (a : Option Addr) (cap : Nat) (l : List (Int × ByteArray)), v = .slice a l.length cap ∧ CansIn w a l ∧ CansOk l ∧ l.length ≤ maxLen
theorem list_of {α : Type} {P : Nat → α → Prop} : ∀ n, (∀ i, i < n → ∃ x, P i x) → ∃ l : List α, l.length = n ∧ ∀ i x, l[i]? = some x → P i x
  | 0, _ => ⟨[], rfl, fun i x h => by simp at h⟩
  | n + 1, h => by
    obtain ⟨l, hl, hp⟩ := list_of n fun i hi => h i (by omega)
    obtain ⟨x, hx⟩ := h n (by omega)
    refine ⟨l ++ [x], by simp [hl], fun i y hy => ?_⟩
    rcases Nat.lt_or_ge i n with h' | h'
    · rw [List.getElem?_append_left (by omega)] at hy
      exact hp i y hy
    · have hi : i < (l ++ [x]).length := (List.getElem?_eq_some_iff.1 hy).1
      have hin : i = n := by simp at hi; omega
      subst hin
      rw [List.getElem?_append_right (by omega), hl] at hy
      simp at hy
      subst hy
      exact hx
set_option maxRecDepth 100000 in
theorem cans_of_trod {fuel : Nat} {cs : List Value} {x : DataW H × List MemPlace} (hf : DataW.trod enc Try.prog w base spare held fuel 42 cs = some x) :
    ∃ (a : Option Addr) (cap : Nat) (l : List (Int × ByteArray)), cs = [.slice a l.length cap] ∧ CansIn w a l ∧ CansOk l ∧ l.length ≤ maxLen := by
  rcases DataW.trod_slice Try.underlying42 hf with ⟨hcs, _⟩ | ⟨a', len', cap', elems, rest, n, _, hcs, _, hb, hl, hm, hlen, hel, _, _⟩
  · subst hcs
    exact ⟨none, 0, [], rfl, .inl rfl, (by intro x hx; cases hx), by simp⟩
  · subst hcs
    have each : ∀ i, i < len' → ∃ x : Int × ByteArray, (I64 x.1 ∧ x.2.size ≤ maxLen) ∧ a'.block < w.heap.size ∧ w.cell? ((a'.add (i * 2)).add 0) = some (.int .i64 x.1) ∧ w.cell? ((a'.add (i * 2)).add 1) = some (.string x.2) := by
      intro i hi
      have := hel i hi
      rw [List.getElem?_eq_getElem (by omega), Option.bind_eq_some_iff, cells_Can] at this
      obtain ⟨cs', hcs, hy⟩ := this
      obtain ⟨y0, y1, n', hx, _, h0, h1⟩ := trod_struct2 Try.underlying82 hy
      obtain ⟨p, e0, _, wp⟩ := DataW.trod_int Try.underlying2 h0
      obtain ⟨s, e1, _, ws⟩ := DataW.trod_string Try.underlying9 h1
      have hq := World.cells?_some hcs
      have hbk := World.cells?_block hcs (by omega)
      obtain ⟨_, hl2, hq⟩ := hq
      match cs', hl2 with
      | [u0, u1], _ =>
        simp [cells_int64, cells_str] at e0 e1
        subst e0 e1
        refine ⟨(p, s), ⟨.of_wf wp, ws⟩, ?_, hq 0 (by omega), hq 1 (by omega)⟩
        have : (a'.add (i * 2)).block = a'.block := by unfold Addr.add; split <;> rfl
        rwa [this] at hbk
    obtain ⟨l, hl, hp⟩ := list_of len' each
    subst hl
    refine ⟨some a', cap', l, rfl, ?_, ?_, by omega⟩
    · rcases l with _ | ⟨x0, l⟩
      · exact .inl rfl
      right
      have h0 := hp 0 x0 rfl
      obtain ⟨b, o, sp⟩ := a'
      have hsp : sp = none := by simpa [Addr.add] using World.cell?_spot h0.2.2.1
      subst hsp
      have hadd : ∀ i, (⟨b, o, none⟩ : Addr).add i = ⟨b, o + i, none⟩ := fun i => by unfold Addr.add; split <;> simp_all
      refine ⟨b, o, rfl, h0.2.1, fun i x hx => ?_⟩
      have := hp i x hx
      rw [hadd] at this
      have h1 : (⟨b, o + i * 2, none⟩ : Addr).add 1 = ⟨b, o + i * 2 + 1, none⟩ := by unfold Addr.add; simp
      rw [h1] at this
      exact ⟨this.2.2.1, this.2.2.2⟩
    · intro x hx
      obtain ⟨i, hi⟩ := List.getElem?_of_mem hx
      exact (hp i x hi).1
set_option maxRecDepth 100000 in
theorem open_Cans (hv : Value.okWide Try.prog w r b0 42 v) (h : DataW.Trod enc Try.prog w base spare held 42 v d ps) : IsCans w v := by
  obtain ⟨a, len, cap, rfl⟩ := okWide_slice Try.underlying42 hv
  obtain ⟨fuel, hf⟩ := h
  obtain ⟨a', cap', l, he, h1, h2, h3⟩ := cans_of_trod hf
  simp [Value.cells] at he
  obtain ⟨rfl, rfl, rfl⟩ := he
  exact ⟨a, cap, l, rfl, h1, h2, h3⟩
/-- The value is a Queue. -/
def IsQueue (w : World) (v : Value) : Prop := ∃ (a : Option Addr) (cap : Nat) (l : List (Int × ByteArray)), v = .agg #[.slice a l.length cap] ∧ CansIn w a l ∧ CansOk l ∧ l.length ≤ maxLen
theorem cells_Queue : Try.prog.cellsOf 44 = 1 := by kernel_rfl
theorem cells_CanS : Try.prog.cellsOf 42 = 1 := by kernel_rfl
set_option maxRecDepth 100000 in
theorem open_Queue (hv : Value.okWide Try.prog w r b0 44 v) (h : DataW.Trod enc Try.prog w base spare held 44 v d ps) : IsQueue w v := by
  obtain ⟨cs, rfl, hsz⟩ := okWide_struct Try.underlying44 hv
  obtain ⟨c0, rfl⟩ : ∃ c0, cs = #[c0] := by
    have h1 := hsz.trans cells_Queue
    refine ⟨cs[0], ?_⟩
    apply Array.ext
    · simp [h1]
    · intro i h2 h3
      have : i = 0 := by simp at h3; omega
      subst this
      rfl
  obtain ⟨fuel, hf⟩ := h
  obtain ⟨y0, n, hx, _, h0⟩ := trod_struct1 Try.underlying44 hf
  obtain ⟨a, cap, l, he, h1, h2, h3⟩ := cans_of_trod h0
  simp [Value.cells, cells_CanS] at he
  subst he
  exact ⟨a, cap, l, rfl, h1, h2, h3⟩
end
end Go.Proofs.Ytmfnbbjhaolhgaa
