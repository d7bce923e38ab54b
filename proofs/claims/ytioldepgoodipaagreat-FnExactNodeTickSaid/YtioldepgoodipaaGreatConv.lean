/- '[]byte(s)' in a walk: the bytes in new memory; one of them written; turned into a string again. -/
import Derived.Test.YtioldepgoodipaaGreatOwn
import Derived.Laws.IdiomStrings
import Derived.Laws.StructEq
namespace Go.Proofs.YtioldepgoodipaaGreat
open Go.RowKit
set_option linter.unusedVariables false

/-- The first cells of block g are these bytes, and may be written. -/
def BytesIn (u : World) (g : Nat) (l : List UInt8) : Prop := ∀ j (hj : j < l.length), u.cell? ⟨g, j, none⟩ = some (.int .u8 (l[j].toNat : Int)) ∧ u.frozen? ⟨g, j, none⟩ = false
theorem BytesIn.below {u u' : World} {g B : Nat} {l : List UInt8} (h : BytesIn u g l) (hb : Below B u u') (hg : g < B) : BytesIn u' g l :=
  fun j hj => ⟨(hb.cell (p := ⟨g, j, none⟩) hg).trans (h j hj).1, (hb.frozen (p := ⟨g, j, none⟩) hg).trans (h j hj).2⟩
theorem BytesIn.drew {u : World} {g : Nat} {l : List UInt8} (h : BytesIn u g l) : BytesIn u.drew g l := h
theorem BytesIn.set {u : World} {g : Nat} {l : List UInt8} (h : BytesIn u g l) (k : Nat) (hk : k < l.length) (c : UInt8) : BytesIn (u.setCell ⟨g, k, none⟩ (.int .u8 (c.toNat : Int))) g (l.set k c) := by
  intro j hj
  have hj' : j < l.length := by simpa using hj
  refine ⟨?_, by rw [World.frozen?_setCell]; exact (h j hj').2⟩
  by_cases e : k = j
  · subst e
    rw [World.cell?_setCell_same _ _ _ (h k hk).1]
    simp
  · rw [List.getElem_set_ne e]
    rw [World.cell?_setCell_other _ _ _ _ (fun q => e (by simp at q))]
    exact (h j hj').1
theorem BytesIn.conv {P : Program} {u : World} {g : Nat} {l : List UInt8} (h : BytesIn u g l) (src dst T : TypeId) (hs : P.underlying src = some (.slice T)) (he : P.underlying T = some (.int .u8)) (hd : P.underlying dst = some .string) (n : Nat) (hn : n = l.length) (cap : Nat) :
    (convert src dst (.slice (some ⟨g, 0, none⟩) n cap)).run P u = .ok (.string ⟨l.toArray⟩) u := by
  subst hn
  refine run_convert_bytes_back u src dst T _ cap l hs he hd fun j hj => ?_
  have e : (⟨g, 0, none⟩ : Addr).add j = ⟨g, j, none⟩ := by unfold Addr.add; split <;> simp_all
  rw [e]
  exact (h j hj).1


section
variable {P : Program} {w : World}
theorem wpList_bytes {ops : Array Oper} {rest : List Oper} {o : Oper} {a : Act} {Q : Exit → Act → World → Prop} (hgd : o.guard = none) (x : Operand) (src dst T : TypeId) (ho : o.op = .convert src dst x)
    (hs : P.underlying src = some .string) (hd : P.underlying dst = some (.slice T)) (he : P.underlying T = some (.int .u8)) (l : List UInt8) (hx : a.eval x = .string ⟨l.toArray⟩)
    (h : ∀ cap w', BytesIn w' w.heap.size l → Below w.heap.size w w' → w.heap.size < w'.heap.size → l.length ≤ cap → wpList P ops Q rest (a.put o.dst (.slice (some ⟨w.heap.size, 0, none⟩) l.length cap)) w') : wpList P ops Q (o :: rest) a w := by
  refine wpList_plain hgd fun K hK => ?_
  have hrun := run_bytes_of_string (P := P) w src dst T ⟨l.toArray⟩ hs hd he
  have hsz : (ByteArray.mk l.toArray).size = l.length := by show l.toArray.size = _; simp
  rw [hsz] at hrun
  unfold Oper.wp
  simp [execOp, ho, hx, hrun, Result.andThen]
  refine hK _ _ (h _ _ (fun j hj => ⟨?_, ?_⟩) ((Below.refl _ _).drew.alloc (Nat.le_refl _) _) (by simp) (grownCap_ge w l.length 0 T))
  · rw [show w.heap.size = w.drew.heap.size from rfl, World.cell?_alloc_mark, bytesRow_at _ _ _ (by simpa using hj)]
    simp
  · rw [show w.heap.size = w.drew.heap.size from rfl, World.frozen?_alloc_mark]
    have : j < (bytesRow ⟨l.toArray⟩ (grownCap w l.length 0 T)).size := by
      unfold bytesRow
      simp
      omega
    simp
    omega
end
end Go.Proofs.YtioldepgoodipaaGreat
