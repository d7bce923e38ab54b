/- As XLit, the row of the call's own said whole, so that more can be appended to it. -/
import Derived.Test.YtdhmcepnmbchkaaWithTaken
namespace Go.Proofs.Ytdhmcepnmbchkaa
open Go.RowKit
set_option linter.unusedVariables false

/-- What a row of the call's own holds stays where blocks below it are written. -/
theorem owns_out {w w' : World} {base lo hi : Nat} {e : TypeId} {s : Nat} {v : Value} {n : Nat} {xs : List Value} (h : w.ownsRow base e s v n xs) (ho : Out lo hi w w') (hb : hi ≤ base) : w'.ownsRow base e s v n xs := by
  refine ⟨h.1, ?_⟩
  rcases h.2 with h2 | ⟨g, cap, cur, hv, hg, hh, r⟩
  · exact .inl h2
  · exact .inr ⟨g, cap, cur, hv, hg, (ho.block g (Array.getElem?_eq_some_iff.1 hh).1 (.inr (by omega))).trans hh, r⟩
section
variable {P : Program} {ops : Array Oper} {rest : List Oper} {o : Oper} {a : Act} {w : World} {Q : Exit → Act → World → Prop}
theorem wpList_append_newO (hgd : o.guard = none) (s x : Operand) (t : TypeId) (ho : o.op = .call { callee := .builtin .append, args := #[s, x], argTypes := #[t, t] })
    (e : TypeId) (i : TypeInfo) (z : Value) (bytes : Nat) (ht : P.underlying t = some (.slice e)) (hi : P.info? e = some i) (hz : i.zero = some z) (hsize : i.size = 1) (hby : i.bytes = bytes) (hzs : z.cells.size = 1)
    (g : Nat) (hs : a.eval s = .slice (some ⟨g, 0, none⟩) 0 0) (hown : w.ownsRow g e 1 (.slice (some ⟨g, 0, none⟩) 0 0) 0 [])
    (ad : Option Addr) (c : Nat) (l : List Int) (hx : a.eval x = .slice ad l.length c) (hin : NumsIn w ad l) (h63 : l.length ≤ maxLen) (hbytes : l.length * bytes ≤ 140737488355328)
    (w0 : World) (hb0 : Below w0.heap.size w0 w) (hg : w0.heap.size = g)
    (h : ∀ w' a' c', l.length ≤ c' → w'.ownsRow g e 1 (.slice a' l.length c') l.length (ncells l) → NumsNew w0.heap.size w'.heap.size w' a' l → Below w0.heap.size w0 w' → wpList P ops Q rest (a.put o.dst (.slice a' l.length c')) w') : wpList P ops Q (o :: rest) a w := by
  have hlt := (World.ownsRow.lt hown g rfl).2
  refine wpList_append_nums hgd s x t ho g e i z bytes ht hi hz hsize hby hzs _ 0 [] hs hown ad c l l.length rfl hx hin (by omega) (by rw [Nat.zero_add]; exact hbytes) (by omega) ?_
  intro v' w' h1 h2
  have h3 : w'.ownsRow g e 1 v' l.length (ncells l) := by simpa using h1
  obtain ⟨a', c', rfl, hc, hn⟩ := NumsNew.of_owns (l := l) h3
  have hb := hb0.grown h2 hb0.size (fun q hq => by have := (World.ownsRow.lt hown q hq).1; omega)
  subst hg
  exact h w' a' c' hc h3 hn hb
end
theorem l05Take_own (a : Option Addr) (cap : Nat) (l : List Int) (x : Int) (w : World) (h : NumsIn w a l) (hlen : l.length ≤ 1048576) (hcap : l.length ≤ cap) (hi : inB 0 251 x = true) :
    Calls Try.prog 113 #[.slice a l.length cap, .int .i64 x] w fun e w' => ∃ a' c', e = .returned (.slice a' (takenI l x).length c') ∧ w'.ownsRow w.heap.size 2 1 (.slice a' (takenI l x).length c') (takenI l x).length (ncells (takenI l x)) ∧ NumsNew w.heap.size w'.heap.size w' a' (takenI l x) ∧ Below w.heap.size w w' :=
  (l05Take_any a cap l x w h hlen hcap).mono fun _ _ ⟨v, h1, h2, h3⟩ => by
    have e : takenI l x = takeI l x := by unfold takenI; rw [if_pos hi]
    rw [e]
    obtain ⟨a', c', rfl, _, hn⟩ := NumsNew.of_owns h2
    exact ⟨a', c', h1, h2, hn, h3⟩
end Go.Proofs.Ytdhmcepnmbchkaa
