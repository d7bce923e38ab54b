/- What an operation of a region in any order may know; a draw begun ahead of some rows. -/
import Derived.Test.YtdhmcepnmbchkaaAnyOps
import Derived.Test.YtdhmcepnmbchkaaDrawMore
namespace Go.Proofs.Ytdhmcepnmbchkaa
open Go.RowKit
set_option linter.unusedVariables false

theorem Known.get {ops : Array Oper} {T : Nat → World → Value → Prop} {a0 : Act} {o : Oper} {a : Act} {w : World} (hK : Known ops T a0 o a w) (k s : Nat) {oj : Oper} (he : o.after.any (fun e => e.on == k && Region.binds .any e) = true) (hoj : ops[k]? = some oj) (hd : oj.dst = some s)
    (hs : Nat.ble (s + 1) a0.tmps.size = true) : T k w (a.eval (.tmp s)) := by
  obtain ⟨e, he1, he2⟩ := Array.any_eq_true'.1 he
  simp only [Bool.and_eq_true] at he2
  have hk : e.on = k := by simpa using he2.1
  subst hk
  exact hK.dep e he1 he2.2 oj s hoj hd (Nat.le_of_ble_eq_true hs)
theorem set_other (W : World) {B k : Nat} (h : k ≠ B) (o : Nat) (v : Value) : (W.setCell ⟨B, o, none⟩ v).heap[k]? = W.heap[k]? := heap_setCell_other W ⟨B, o, none⟩ k v (fun e => h (by simp [e]))
theorem grown_of_below {W W' : World} {r : Option Nat} (hb : Below W.heap.size W W') : W.grownBy W' r := ⟨hb.os, hb.tape, hb.output, hb.size, fun k hk _ => hb.block k hk⟩
/-- The same draw, begun ahead of some rows. -/
theorem Dr.base {w u w' : World} {S : Nat} {a : Option Addr} {len cap : Nat} {zs : List Int} (h : Dr w' S a len cap zs u) (hb : Below w.heap.size w w') (ha : 0 < len → ∀ b o, a = some ⟨b, o, none⟩ → b < w.heap.size) : Dr w S a len cap zs u :=
  ⟨h.src, h.row, hb.trans (h.below.mono hb.size), Nat.le_trans hb.size h.lo, ha, h.few⟩
end Go.Proofs.Ytdhmcepnmbchkaa
