/- What lives while a law runs: its variables, and the rows that its calls made. -/
import Derived.Test.YtmfnbbjhaolhgaaNews
namespace Go.Proofs.Ytmfnbbjhaolhgaa
open Go.RowKit
set_option linter.unusedVariables false

/-- Below w's own blocks nothing has turned; the variables rs hold what they hold; the rows ns hold their Cans. -/
structure Live (w W : World) (rs : List (Nat × List Value)) (ns : List (Nat × Nat × Option Addr × List (Int × ByteArray))) : Prop where
  below : Below w.heap.size w W
  row : ∀ r ∈ rs, RowAt W r.1 r.2
  new : ∀ n ∈ ns, NewIn n.1 n.2.1 W n.2.2.1 n.2.2.2
section
variable {w W W' : World} {rs rs' : List (Nat × List Value)} {ns ns' : List (Nat × Nat × Option Addr × List (Int × ByteArray))}
theorem Live.first (h : Below w.heap.size w W) : Live w W [] [] := ⟨h, fun r hr => (by cases hr), fun n hn => (by cases hn)⟩
theorem Live.kept (h : Live w W rs ns) (hb : Below W.heap.size W W') : Live w W' rs ns :=
  ⟨h.below.trans (hb.mono h.below.size), fun r hr => (h.row r hr).kept hb, fun n hn => (h.new n hn).kept hb⟩
theorem Live.alloc (h : Live w W rs ns) (o : Obj) : Live w (W.alloc o) rs ns := h.kept ((Below.refl _ _).alloc (Nat.le_refl _) o)
theorem Live.out {lo hi : Nat} (h : Live w W rs ns) (ho : Out lo hi W W') (hlo : w.heap.size ≤ lo) (hr : ∀ r ∈ rs, r.1 < lo ∨ hi ≤ r.1) (hn : ∀ n ∈ ns, n.2.1 ≤ lo ∨ hi ≤ n.1) : Live w W' rs ns :=
  ⟨ho.below h.below hlo h.below.size, fun r h' => (h.row r h').out ho (hr r h'), fun n h' => (h.new n h').out ho (hn n h')⟩
theorem Live.addRow (h : Live w W rs ns) (cs : Array Value) (T : TypeId) : Live w (W.alloc (.cells cs T)) ((W.heap.size, cs.toList) :: rs) ns :=
  ⟨(h.alloc _).below, fun r hr => by
    rcases List.mem_cons.1 hr with rfl | hr
    · exact RowAt.new W cs T
    · exact (h.alloc _).row r hr, (h.alloc _).new⟩
theorem Live.addNew {lo hi : Nat} {a : Option Addr} {l : List (Int × ByteArray)} (h : Live w W rs ns) (hn : NewIn lo hi W a l) : Live w W rs ((lo, hi, a, l) :: ns) :=
  ⟨h.below, h.row, fun n h' => by
    rcases List.mem_cons.1 h' with rfl | h'
    · exact hn
    · exact h.new n h'⟩
theorem Live.less (h : Live w W rs ns) (h1 : ∀ r ∈ rs', r ∈ rs) (h2 : ∀ n ∈ ns', n ∈ ns) : Live w W rs' ns' := ⟨h.below, fun r hr => h.row r (h1 r hr), fun n hn => h.new n (h2 n hn)⟩
theorem Live.get {R : Nat} {vs : List Value} (h : Live w W rs ns) (hm : (R, vs) ∈ rs) (j : Nat) (u : Value) (hu : vs[j]? = some u) : W.cell? ⟨R, j, none⟩ = some u := (h.row _ hm).get j u hu
theorem Live.at {lo hi : Nat} {a : Option Addr} {l : List (Int × ByteArray)} (h : Live w W rs ns) (hm : (lo, hi, a, l) ∈ ns) : NewIn lo hi W a l := h.new _ hm
end
end Go.Proofs.Ytmfnbbjhaolhgaa
