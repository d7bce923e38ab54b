/- An empty literal of numbers and what is appended to it, and a clone: numbers of the call's own, the world behind each named. -/
import Derived.Test.YtpolpkheaibonaaClone
import Derived.Test.YtpolpkheaibonaaStep
namespace Go.Proofs.Ytpolpkheaibonaa
open Go.RowKit
set_option linter.unusedVariables false

section
variable {P : Program} {ops : Array Oper} {rest : List Oper} {o : Oper} {a : Act} {w : World} {Q : Exit → Act → World → Prop}
theorem wpList_lit_h (hgd : o.guard = none) (t : TypeId) (ho : o.op = .buildSlice t 0 #[]) (e : TypeId) (i : TypeInfo) (ht : P.underlying t = some (.slice e)) (hi : P.info? e = some i)
    (h : ∀ w' g, w.heap.size = g → w'.ownsRow g e 1 (.slice (some ⟨g, 0, none⟩) 0 0) 0 [] → Below w.heap.size w w' → wpList P ops Q rest (a.put o.dst (.slice (some ⟨g, 0, none⟩) 0 0)) w') : wpList P ops Q (o :: rest) a w :=
  wpList_plain hgd fun K hK => by
    have hown := World.ownsRow_lit (base := w.heap.size) (size := 1) (e := e) w #[] 0 (Nat.le_refl _) (by unfold maxLen; omega) rfl
    have := hK _ _ (h (w.alloc (.cells #[] e)) _ rfl hown ((Below.refl _ _).alloc (Nat.le_refl _) _))
    unfold Oper.wp execOp
    simp [ho, Instr.buildSlice, run_underlying ht, sizeOf, typeInfo, hi, Instr.fill, newRow, run_newObj_alloc, -run_newObj, Result.andThen_ok, show ∀ f : Nat → Value, (Array.range 0).map f = #[] from fun f => Array.eq_empty_of_size_eq_zero (by simp)]
    exact this
theorem wpList_append_new (hgd : o.guard = none) (s x : Operand) (t : TypeId) (ho : o.op = .call { callee := .builtin .append, args := #[s, x], argTypes := #[t, t] })
    (e : TypeId) (i : TypeInfo) (z : Value) (bytes : Nat) (ht : P.underlying t = some (.slice e)) (hi : P.info? e = some i) (hz : i.zero = some z) (hsize : i.size = 1) (hby : i.bytes = bytes) (hzs : z.cells.size = 1)
    (g : Nat) (hs : a.eval s = .slice (some ⟨g, 0, none⟩) 0 0) (hown : w.ownsRow g e 1 (.slice (some ⟨g, 0, none⟩) 0 0) 0 [])
    (ad : Option Addr) (c : Nat) (l : List Int) (hx : a.eval x = .slice ad l.length c) (hin : NumsIn w ad l) (h63 : l.length ≤ maxLen) (hbytes : l.length * bytes ≤ 140737488355328)
    (w0 : World) (hb0 : Below w0.heap.size w0 w) (hg : w0.heap.size = g)
    (h : ∀ w' a' c', l.length ≤ c' → NumsNew w0.heap.size w'.heap.size w' a' l → Below w0.heap.size w0 w' → wpList P ops Q rest (a.put o.dst (.slice a' l.length c')) w') : wpList P ops Q (o :: rest) a w := by
  have hlt := (World.ownsRow.lt hown g rfl).2
  refine wpList_append_nums hgd s x t ho g e i z bytes ht hi hz hsize hby hzs _ 0 [] hs hown ad c l l.length rfl hx hin (by omega) (by rw [Nat.zero_add]; exact hbytes) (by omega) ?_
  intro v' w' h1 h2
  obtain ⟨a', c', rfl, hc, hn⟩ := NumsNew.of_owns (l := l) (show w'.ownsRow g e 1 v' l.length (ncells l) by simpa using h1)
  have hb := hb0.grown h2 hb0.size (fun q hq => by have := (World.ownsRow.lt hown q hq).1; omega)
  subst hg
  exact h w' a' c' hc hn hb
end
theorem clone_new (a : Option Addr) (cap : Nat) (l : List Int) (w : World) (h : NumsIn w a l) (hlen : l.length ≤ 1048576) :
    Calls Try.prog 162 #[.slice a l.length cap] w fun e w' => ∃ a' c', e = .returned (.slice a' l.length c') ∧ NumsNew w.heap.size w'.heap.size w' a' l ∧ Below w.heap.size w w' :=
  (clone_any a cap l w h hlen).mono fun _ _ ⟨v, h1, h2, h3⟩ => by
    obtain ⟨a', c', rfl, _, hn⟩ := NumsNew.of_owns h2
    exact ⟨a', c', h1, hn, h3⟩
end Go.Proofs.Ytpolpkheaibonaa
