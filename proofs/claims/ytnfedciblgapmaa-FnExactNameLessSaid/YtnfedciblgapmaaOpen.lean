/- What comes in: numbers, texts, and structs of these by value, as the laws' shells want them. -/
import Derived.Test.YtnfedciblgapmaaOwn
import Derived.Test.YtnfedciblgapmaaName
import Derived.ChangeOld
import Derived.Lib.SmallJoins
import Derived.OpenShut
namespace Go.Proofs.Ytnfedciblgapmaa
open Go.RowKit Go.ChangeShapes Go.WideShapes Go.ChangeAt Go.Joins
set_option linter.unusedVariables false

/-- A number of 64 bits. -/
def I64 (n : Int) : Prop := -9223372036854775808 ≤ n ∧ n ≤ 9223372036854775807
theorem I64.of_wf {n : Int} (h : (Lit.int .i64 n).wf = true) : I64 n := by
  simp [Lit.wf, IntKind.min, IntKind.max, IntKind.signed, IntKind.bits] at h
  unfold I64
  omega
/-- The value is a number of 64 bits. -/
def IsI64 (v : Value) : Prop := ∃ n, v = .int .i64 n ∧ I64 n
/-- The value is a text. -/
def IsStr (v : Value) : Prop := ∃ s : ByteArray, v = .string s ∧ s.size ≤ maxLen
section
variable {H : Type} {enc : TypeId × Value → H} {w : World} {base : Nat} {spare : Nat → Bool} {held : Bool} {b0 : Nat} {r : Reach} {v : Value} {d : DataW H} {ps : List MemPlace}
set_option maxRecDepth 100000 in
theorem open_I64 {t : TypeId} (ht : Try.prog.underlying t = some (.int .i64)) (hv : Value.okWide Try.prog w r b0 t v) (h : DataW.Trod enc Try.prog w base spare held t v d ps) : IsI64 v := by
  obtain ⟨a, rfl, _, _, w0⟩ := open_int ht hv h
  exact ⟨a, rfl, .of_wf w0⟩
set_option maxRecDepth 100000 in
theorem open_Str {t : TypeId} (ht : Try.prog.underlying t = some .string) (hv : Value.okWide Try.prog w r b0 t v) (h : DataW.Trod enc Try.prog w base spare held t v d ps) : IsStr v := by
  obtain ⟨a, rfl, _, _, w0⟩ := Go.ChangeMaps.open_string ht hv h
  exact ⟨a, rfl, w0⟩

/-- The value is a Name. -/
def IsNm (v : Value) : Prop := ∃ n : Nm, v = nmV n ∧ I64 n.u ∧ I64 n.m ∧ I64 n.i ∧ I64 n.f ∧ I64 n.c ∧ I64 n.s ∧ I64 n.y
theorem cells_Nm : Try.prog.cellsOf 36 = 8 := by kernel_rfl
theorem cells_nmInt : Try.prog.cellsOf 2 = 1 := by kernel_rfl
theorem cells_nmBool : Try.prog.cellsOf 4 = 1 := by kernel_rfl
theorem list8 {α : Type} {l : List α} (h : l.length = 8) : ∃ x0 x1 x2 x3 x4 x5 x6 x7, l = [x0, x1, x2, x3, x4, x5, x6, x7] := by
  match l, h with
  | [x0, x1, x2, x3, x4, x5, x6, x7], _ => exact ⟨x0, x1, x2, x3, x4, x5, x6, x7, rfl⟩
theorem array8 {α : Type} {cs : Array α} (h : cs.size = 8) : ∃ c0 c1 c2 c3 c4 c5 c6 c7, cs = #[c0, c1, c2, c3, c4, c5, c6, c7] := by
  obtain ⟨l⟩ := cs
  obtain ⟨x0, x1, x2, x3, x4, x5, x6, x7, rfl⟩ := list8 (by simpa using h : l.length = 8)
  exact ⟨x0, x1, x2, x3, x4, x5, x6, x7, rfl⟩
set_option maxRecDepth 100000 in
theorem nm_of_trod {fuel : Nat} {c0 c1 c2 c3 c4 c5 c6 c7 : Value} {x : DataW H × List MemPlace} (hf : DataW.trod enc Try.prog w base spare held fuel 36 [c0, c1, c2, c3, c4, c5, c6, c7] = some x) :
    ∃ n : Nm, c0 = .int .i64 n.u ∧ c1 = .int .i64 n.m ∧ c2 = .int .i64 n.i ∧ c3 = .int .i64 n.f ∧ c4 = .int .i64 n.c ∧ c5 = .int .i64 n.s ∧ c6 = .int .i64 n.y ∧ c7 = .bool n.a ∧ I64 n.u ∧ I64 n.m ∧ I64 n.i ∧ I64 n.f ∧ I64 n.c ∧ I64 n.s ∧ I64 n.y := by
  obtain ⟨xs, n, _, _, _, hlen, hall⟩ := DataW.trod_struct Try.underlying36 hf
  obtain ⟨y0, y1, y2, y3, y4, y5, y6, y7, rfl⟩ := list8 (by simpa using hlen)
  have h0 := hall 0 _ rfl
  have h1 := hall 1 _ rfl
  have h2 := hall 2 _ rfl
  have h3 := hall 3 _ rfl
  have h4 := hall 4 _ rfl
  have h5 := hall 5 _ rfl
  have h6 := hall 6 _ rfl
  have h7 := hall 7 _ rfl
  clear hall hf hlen
  obtain ⟨a0, e0, _, w0⟩ := DataW.trod_int Try.underlying2 h0
  obtain ⟨a1, e1, _, w1⟩ := DataW.trod_int Try.underlying2 h1
  obtain ⟨a2, e2, _, w2⟩ := DataW.trod_int Try.underlying2 h2
  obtain ⟨a3, e3, _, w3⟩ := DataW.trod_int Try.underlying2 h3
  obtain ⟨a4, e4, _, w4⟩ := DataW.trod_int Try.underlying2 h4
  obtain ⟨a5, e5, _, w5⟩ := DataW.trod_int Try.underlying2 h5
  obtain ⟨a6, e6, _, w6⟩ := DataW.trod_int Try.underlying2 h6
  obtain ⟨a7, e7, _⟩ := DataW.trod_bool Try.underlying4 h7
  simp [cells_nmInt, cells_nmBool] at e0 e1 e2 e3 e4 e5 e6 e7
  exact ⟨⟨a0, a1, a2, a3, a4, a5, a6, a7⟩, e0, e1, e2, e3, e4, e5, e6, e7, .of_wf w0, .of_wf w1, .of_wf w2, .of_wf w3, .of_wf w4, .of_wf w5, .of_wf w6⟩
set_option maxRecDepth 100000 in
theorem open_Nm (hv : Value.okWide Try.prog w r b0 36 v) (h : DataW.Trod enc Try.prog w base spare held 36 v d ps) : IsNm v := by
  obtain ⟨cs, rfl, hsz⟩ := okWide_struct Try.underlying36 hv
  obtain ⟨c0, c1, c2, c3, c4, c5, c6, c7, rfl⟩ := array8 (hsz.trans cells_Nm)
  obtain ⟨fuel, hf⟩ := h
  obtain ⟨n, rfl, rfl, rfl, rfl, rfl, rfl, rfl, rfl, k⟩ := nm_of_trod hf
  exact ⟨n, rfl, k⟩
end
end Go.Proofs.Ytnfedciblgapmaa
