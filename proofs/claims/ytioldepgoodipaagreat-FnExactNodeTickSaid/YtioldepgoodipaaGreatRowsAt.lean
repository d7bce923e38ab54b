/- What a call leaves alone that writes into rows of its own; variables of a call's own; cells that a drawn region loads. -/
import Derived.Test.YtioldepgoodipaaGreatOwn
import Derived.Laws.IdiomStrings
namespace Go.Proofs.YtioldepgoodipaaGreat
open Go.RowKit
set_option linter.unusedVariables false

/-- Outside the blocks from lo on and below hi the world w' is as w was. -/
structure Out (lo hi : Nat) (w w' : World) : Prop where
  os : w'.os = w.os
  tape : w'.tape = w.tape
  output : w'.output = w.output
  size : w.heap.size ≤ w'.heap.size
  block : ∀ k, k < w.heap.size → (k < lo ∨ hi ≤ k) → w'.heap[k]? = w.heap[k]?
theorem Out.of_below {lo hi : Nat} {w w' : World} (h : Below w.heap.size w w') : Out lo hi w w' := ⟨h.os, h.tape, h.output, h.size, fun k hk _ => h.block k hk⟩
theorem Out.refl (lo hi : Nat) (w : World) : Out lo hi w w := ⟨rfl, rfl, rfl, Nat.le_refl _, fun _ _ _ => rfl⟩
theorem Out.trans {lo hi : Nat} {a b c : World} (h : Out lo hi a b) (k : Out lo hi b c) : Out lo hi a c :=
  ⟨k.os.trans h.os, k.tape.trans h.tape, k.output.trans h.output, Nat.le_trans h.size k.size, fun i hi h' => (k.block i (Nat.lt_of_lt_of_le hi h.size) h').trans (h.block i hi h')⟩
theorem Out.setCell {lo hi : Nat} {a w : World} (h : Out lo hi a w) {p : Addr} (h1 : lo ≤ p.block) (h2 : p.block < hi) (u : Value) : Out lo hi a (w.setCell p u) :=
  h.trans ⟨rfl, rfl, rfl, by simp [World.setCell], fun k hk h' => Below.heap_setCell _ _ _ _ (by omega)⟩
theorem Out.below {B lo hi : Nat} {w0 w w' : World} (h : Out lo hi w w') (hb : Below B w0 w) (hB : B ≤ lo) (hs : B ≤ w.heap.size) : Below B w0 w' :=
  hb.trans ⟨h.os, h.tape, h.output, h.size, fun k hk => h.block k (by omega) (.inl (by omega))⟩
theorem Out.cell {lo hi : Nat} {w w' : World} (h : Out lo hi w w') {p : Addr} (hp : p.block < w.heap.size) (h' : p.block < lo ∨ hi ≤ p.block) : w'.cell? p = w.cell? p := World.cell?_of_block (w := w) (h.block p.block hp h')
theorem Out.frozen {lo hi : Nat} {w w' : World} (h : Out lo hi w w') {p : Addr} (hp : p.block < w.heap.size) (h' : p.block < lo ∨ hi ≤ p.block) : w'.frozen? p = w.frozen? p := World.frozen?_of_block (w := w) (h.block p.block hp h')

/-- A cell is there, and nothing that was there has turned. -/
def OneS (wr : World) (p : Addr) (v : Value) (W : World) : Prop := W.cell? p = some v ∧ Below wr.heap.size wr W
theorem one_first {wr : World} {p : Addr} {v : Value} (h : wr.cell? p = some v) : OneS wr p v wr.drew := ⟨h, (Below.refl _ _).drew⟩
theorem one_call {wr W W' : World} {p : Addr} {v : Value} (l : p.block < wr.heap.size) (h : OneS wr p v W) (hb : Below W.heap.size W W') : OneS wr p v W' :=
  ⟨(hb.cell (Nat.lt_of_lt_of_le l h.2.size)).trans h.1, h.2.trans (hb.mono h.2.size)⟩
theorem one_alloc {wr W : World} {p : Addr} {v : Value} (l : p.block < wr.heap.size) (h : OneS wr p v W) (o : Obj) : OneS wr p v (W.alloc o) :=
  one_call l h ((Below.refl _ _).alloc (Nat.le_refl _) o)
theorem one_alloc_drew {wr W : World} {p : Addr} {v : Value} (l : p.block < wr.heap.size) (h : OneS wr p v W.drew) (o : Obj) : OneS wr p v (W.alloc o).drew :=
  one_alloc l h o
/-- A cell is there, and below B nothing that was there has turned. -/
def OneB (B : Nat) (wr : World) (p : Addr) (v : Value) (W : World) : Prop := W.cell? p = some v ∧ Below B wr W
section
variable {B : Nat} {wr W W' : World} {p : Addr} {v : Value}
theorem oneB_first (h : wr.cell? p = some v) : OneB B wr p v wr.drew := ⟨h, (Below.refl _ _).drew⟩
theorem oneB_call (l : p.block < B) (hB : B ≤ wr.heap.size) (h : OneB B wr p v W) (hb : Below W.heap.size W W') : OneB B wr p v W' :=
  ⟨(hb.cell (Nat.lt_of_lt_of_le l (Nat.le_trans hB h.2.size))).trans h.1, h.2.trans (hb.mono (Nat.le_trans hB h.2.size))⟩
theorem oneB_alloc (l : p.block < B) (hB : B ≤ wr.heap.size) (h : OneB B wr p v W) (o : Obj) : OneB B wr p v (W.alloc o) :=
  oneB_call l hB h ((Below.refl _ _).alloc (Nat.le_refl _) o)
theorem oneB_alloc_drew (l : p.block < B) (hB : B ≤ wr.heap.size) (h : OneB B wr p v W.drew) (o : Obj) : OneB B wr p v (W.alloc o).drew := oneB_alloc l hB h o
theorem oneB_set (l : p.block < B) {q : Addr} (hq : B ≤ q.block) (h : OneB B wr p v W) (u : Value) : OneB B wr p v (W.setCell q u) :=
  ⟨(World.cell?_of_block (Below.heap_setCell _ _ _ _ (by omega))).trans h.1, h.2.setCell hq u⟩
end
/-- The cells of a variable of the call's own: block R holds vs, and may be written. -/
structure RowAt (W : World) (R : Nat) (vs : List Value) : Prop where
  lt : R < W.heap.size
  get : ∀ (j : Nat) u, vs[j]? = some u → W.cell? ⟨R, j, none⟩ = some u
  free : ∀ j, W.frozen? ⟨R, j, none⟩ = false
section
variable {W W' : World} {R : Nat} {vs : List Value}
theorem RowAt.new (w : World) (cs : Array Value) (T : TypeId) : RowAt (w.alloc (.cells cs T)) w.heap.size cs.toList :=
  ⟨by simp, fun j u h => by rw [World.cell?_alloc_mark]; simpa using h, fun j => by rw [World.frozen?_alloc_mark]; simp⟩
theorem RowAt.kept (h : RowAt W R vs) (hb : Below W.heap.size W W') : RowAt W' R vs :=
  ⟨Nat.lt_of_lt_of_le h.lt hb.size, fun j u hu => (hb.cell (p := ⟨R, j, none⟩) h.lt).trans (h.get j u hu), fun j => (hb.frozen (p := ⟨R, j, none⟩) h.lt).trans (h.free j)⟩
theorem RowAt.alloc (h : RowAt W R vs) (o : Obj) : RowAt (W.alloc o) R vs := h.kept ((Below.refl _ _).alloc (Nat.le_refl _) o)
theorem RowAt.drew (h : RowAt W R vs) : RowAt W.drew R vs := h.kept (Below.refl _ _).drew
theorem RowAt.out {lo hi : Nat} (h : RowAt W R vs) (ho : Out lo hi W W') (hd : R < lo ∨ hi ≤ R) : RowAt W' R vs :=
  ⟨Nat.lt_of_lt_of_le h.lt ho.size, fun j u hu => (ho.cell (p := ⟨R, j, none⟩) h.lt hd).trans (h.get j u hu), fun j => (ho.frozen (p := ⟨R, j, none⟩) h.lt hd).trans (h.free j)⟩
theorem RowAt.setOther (h : RowAt W R vs) {p : Addr} (hp : p.block ≠ R) (u : Value) : RowAt (W.setCell p u) R vs :=
  h.out (lo := p.block) (hi := p.block + 1) ((Out.refl _ _ _).setCell (Nat.le_refl _) (Nat.lt_succ_self _) u) (by omega)
theorem RowAt.below {B : Nat} (h : RowAt W R vs) (hb : Below B W W') (hR : R < B) : RowAt W' R vs :=
  ⟨Nat.lt_of_lt_of_le h.lt hb.size, fun j u hu => (hb.cell (p := ⟨R, j, none⟩) hR).trans (h.get j u hu), fun j => (hb.frozen (p := ⟨R, j, none⟩) hR).trans (h.free j)⟩
end
theorem Out.of_grown {lo hi : Nat} {w w' : World} {row : Option Nat} (hg : w.grownBy w' row) (h : ∀ k, row = some k → lo ≤ k ∧ k < hi) : Out lo hi w w' :=
  ⟨hg.os, hg.tape, hg.output, hg.size, fun k hk h' => hg.block k hk (fun e => by have := h k e.symm; omega)⟩
theorem owns_slice {w : World} {base : Nat} {e : TypeId} {s : Nat} {v : Value} {n : Nat} {xs : List Value} (h : w.ownsRow base e s v n xs) : ∃ a c, v = .slice a n c := by
  rcases h.2 with ⟨rfl, hn⟩ | ⟨g, cap, cur, rfl, _⟩
  · exact ⟨none, 0, by rw [hn]⟩
  · exact ⟨_, _, rfl⟩
theorem owns_below {w w' : World} {base : Nat} {e : TypeId} {s : Nat} {v : Value} {n : Nat} {xs : List Value} (h : w.ownsRow base e s v n xs) (hb : Below w.heap.size w w') : w'.ownsRow base e s v n xs :=
  h.kept ⟨hb.os, hb.tape, hb.output, hb.size, fun k hk _ => hb.block k hk⟩ (row := none) (by
    rcases hv : v.ownBlock with _ | k
    · exact .inl rfl
    · exact .inr (by simp))
theorem owns_set {w : World} {base : Nat} {e : TypeId} {s : Nat} {v : Value} {n : Nat} {xs : List Value} (h : w.ownsRow base e s v n xs) {p : Addr} (hne : v.ownBlock ≠ some p.block) (u : Value) : (w.setCell p u).ownsRow base e s v n xs :=
  h.kept (row := some p.block) ⟨rfl, rfl, rfl, by simp [World.setCell], fun k hk hn => Below.heap_setCell _ _ _ _ (fun q => hn (by rw [q]))⟩ (.inr hne)
theorem owns_set_lt {w : World} {base : Nat} {e : TypeId} {s : Nat} {v : Value} {n : Nat} {xs : List Value} (h : w.ownsRow base e s v n xs) {p : Addr} (hp : p.block < base) (u : Value) : (w.setCell p u).ownsRow base e s v n xs :=
  owns_set h (fun q => by have := (World.ownsRow.lt h _ q).1; omega) u
/-- A block of another type is not the row's. -/
theorem owns_ne {w : World} {base : Nat} {e e' : TypeId} {s : Nat} {v : Value} {n : Nat} {xs : List Value} (h : w.ownsRow base e s v n xs) {k : Nat} {cs : Array Value} {fr : Nat × Nat} (hk : w.heap[k]? = some (.cells cs e' fr)) (he : e' ≠ e) : v.ownBlock ≠ some k := by
  rcases h.2 with ⟨rfl, _⟩ | ⟨g, cap, cur, rfl, _, hg, _⟩
  · intro q; cases q
  · intro q
    simp [Value.ownBlock] at q
    subst q
    rw [hg] at hk
    simp at hk
    exact he hk.2.1.symm
/-- Two cells are there, and nothing that was there has turned. -/
def TwoS (wr : World) (p q : Addr) (u v : Value) (W : World) : Prop := (W.cell? p = some u ∧ W.cell? q = some v) ∧ Below wr.heap.size wr W
section
variable {wr W W' w0 : World} {p q : Addr} {u v : Value} {B : Nat}
theorem twoS_first (h : wr.cell? p = some u) (h' : wr.cell? q = some v) : TwoS wr p q u v wr.drew := ⟨⟨h, h'⟩, (Below.refl _ _).drew⟩
theorem twoS_call (l : p.block < wr.heap.size) (l' : q.block < wr.heap.size) (h : TwoS wr p q u v W) (hb : Below W.heap.size W W') : TwoS wr p q u v W' :=
  ⟨⟨(hb.cell (Nat.lt_of_lt_of_le l h.2.size)).trans h.1.1, (hb.cell (Nat.lt_of_lt_of_le l' h.2.size)).trans h.1.2⟩, h.2.trans (hb.mono h.2.size)⟩
theorem twoS_below (h : TwoS wr p q u v W) (hb : Below B w0 wr) (hB : B ≤ wr.heap.size) : Below B w0 W := hb.trans (h.2.mono hB)
theorem twoS_keeps (h : TwoS wr p q u v W) : Below wr.heap.size wr W := h.2
end
/-- A call in a region of which each operation yields the same in every world that has grown out of U. -/
theorem quietCall {P : Program} {f : FuncId} {args : Array Value} {U W : World} {v : Value} (hW : Below U.heap.size U W) (h : Calls P f args W fun e w' => e = .returned v ∧ Below W.heap.size W w') :
    Calls P f args W fun e w' => e = .returned v ∧ Below U.heap.size U w' := h.mono fun _ _ ⟨e, hb⟩ => ⟨e, hW.trans (hb.mono hW.size)⟩
theorem quietSame {P : Program} {f : FuncId} {args : Array Value} {U W : World} {v : Value} (hW : Below U.heap.size U W) (h : Calls P f args W fun e w' => e = .returned v ∧ W = w') :
    Calls P f args W fun e w' => e = .returned v ∧ Below U.heap.size U w' := h.mono fun _ _ ⟨e, hb⟩ => ⟨e, hb ▸ hW⟩
end Go.Proofs.YtioldepgoodipaaGreat
