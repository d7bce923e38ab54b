/- Fields and Values that come in, and what the laws' own toField, toValue and eqValue answer. Nothing that was there is written. -/
import Derived.Test.YtanijfmfjabmfaaBitsLow
import Derived.Test.YtanijfmfjabmfaaOpen
namespace Go.Proofs.Ytanijfmfjabmfaa
open Go.RowKit Go.ChangeShapes Go.WideShapes Go.ChangeAt Go.Joins
set_option linter.unusedVariables false

/-- A Value, as a value. -/
def vlV (k n : Int) : Value := .agg #[.int .i64 k, .int .i64 n]
/-- The value is a Field. -/
def IsFd (v : Value) : Prop := ∃ a w g, v = fdV a w g ∧ I64 a ∧ I64 w
/-- The value is a Value. -/
def IsVl (v : Value) : Prop := ∃ k n, v = vlV k n ∧ I64 k ∧ I64 n
section
variable {H : Type} {enc : TypeId × Value → H} {w : World} {base : Nat} {spare : Nat → Bool} {held : Bool} {b0 : Nat} {r : Reach} {v : Value} {d : DataW H} {ps : List MemPlace}
theorem cells_bInt : Try.prog.cellsOf 2 = 1 := by kernel_rfl
theorem cells_bBool : Try.prog.cellsOf 4 = 1 := by kernel_rfl
theorem cells_Vl : Try.prog.cellsOf 162 = 2 := by kernel_rfl
set_option maxRecDepth 100000 in
theorem open_Vl (hv : Value.okWide Try.prog w r b0 162 v) (h : DataW.Trod enc Try.prog w base spare held 162 v d ps) : IsVl v := by
  obtain ⟨cs, rfl, hsz⟩ := okWide_struct Try.underlying162 hv
  obtain ⟨c0, c1, rfl⟩ := array2 (hsz.trans cells_Vl)
  obtain ⟨fuel, hf⟩ := h
  obtain ⟨y0, y1, n, hx, _, h0, h1⟩ := trod_struct2 Try.underlying162 hf
  obtain ⟨a, e0, _, wa⟩ := DataW.trod_int Try.underlying2 h0
  obtain ⟨b, e1, _, wb⟩ := DataW.trod_int Try.underlying2 h1
  simp [Value.cells, cells_bInt] at e0 e1
  subst e0 e1
  exact ⟨a, b, rfl, .of_wf wa, .of_wf wb⟩
end
set_option maxHeartbeats 1000000 in
theorem toValue_any (k n : Int) (W : World) :
    Calls Try.prog 143 #[vlV k n] W fun e W' => e = .returned (vlV k n) ∧ Below W.heap.size W W' := by
  unfold vlV
  go_enter Try.func143, Try.ntmps143
  go_wp2
  exact bodyPost_ret (v := .agg #[.int .i64 k, .int .i64 n]) (by simp [results, Try.results143, go_sem]) rfl ⟨rfl, (((Below.refl _ _).alloc (Nat.le_refl _) _).alloc (by simp) _).alloc (by simp; omega) _⟩
set_option maxHeartbeats 1000000 in
theorem eqValue_same (k n : Int) (W : World) :
    Calls Try.prog 144 #[vlV k n, vlV k n] W fun e W' => e = .returned (.bool true) ∧ Below W.heap.size W W' := by
  unfold vlV
  go_enter Try.func144, Try.ntmps144
  go_wp2
  go_ret
  exact ⟨rfl, ((Below.refl _ _).alloc (Nat.le_refl _) _).alloc (by simp) _⟩
end Go.Proofs.Ytanijfmfjabmfaa
