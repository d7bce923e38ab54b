/- Several texts in one, each with its own head: what is proved, and of what, stands there. -/
import Derived.Test.YtioldepgoodipaaGreatRows
import Derived.WalkKit
import Derived.WalkSpells
import Derived.WalkLawsBesides
import Derived.Lib.Hide
import Derived.Lib.BufferWrite
import Derived.Laws.CopyOwn
import Derived.Laws.IdiomStrings
import Derived.Laws.Rows
import Derived.Deep.MidRow
import Derived.BigFrame
import Derived.Laws.NewFold
import Derived.Laws.Sem
import Derived.BigQuiet
import Derived.Deep.RegionHeld3
import Derived.Deep.RegionLawGrows
import Derived.Handy
import Derived.Lib.SmallJoins
import Derived.ChangeOld
import Derived.OpenShut
import Derived.Laws.AppendOwnNone
namespace Go.Proofs.YtioldepgoodipaaGreat
open Go.RowKit
set_option linter.unusedVariables false

abbrev qA0 : Array Value := #[.int .i64 0, .int .i64 0, .int .i64 0, .int .i64 0, .int .i64 0, .string ByteArray.empty, .int .i64 0]
abbrev qA1 (p0 : Int) (p1 : Int) (p2 : Int) (p3 : Int) (p4 : Int) (p5 : ByteArray) (p6 : Int) : Array Value := #[.int .i64 p0, .int .i64 p1, .int .i64 p2, .int .i64 p3, .int .i64 p4, .string p5, .int .i64 p6]
abbrev qA2 (p0 : Int) : Array Value := #[.int .i64 p0, .int .i64 0, .int .i64 0, .int .i64 0, .int .i64 0, .string ByteArray.empty, .int .i64 0]
abbrev qA3 (p0 : Int) (p1 : Int) : Array Value := #[.int .i64 p0, .int .i64 p1, .int .i64 0, .int .i64 0, .int .i64 0, .string ByteArray.empty, .int .i64 0]
abbrev qA4 (p0 : Int) (p1 : Int) (p2 : Int) : Array Value := #[.int .i64 p0, .int .i64 p1, .int .i64 p2, .int .i64 0, .int .i64 0, .string ByteArray.empty, .int .i64 0]
abbrev qA5 (p0 : Int) (p1 : Int) (p2 : Int) (p3 : Int) : Array Value := #[.int .i64 p0, .int .i64 p1, .int .i64 p2, .int .i64 p3, .int .i64 0, .string ByteArray.empty, .int .i64 0]
abbrev qA6 (p0 : Int) (p1 : Int) (p2 : Int) (p3 : Int) (p4 : Int) : Array Value := #[.int .i64 p0, .int .i64 p1, .int .i64 p2, .int .i64 p3, .int .i64 p4, .string ByteArray.empty, .int .i64 0]
theorem qAm2 {α : Type _} {a0 a1 a2 : α} {l : List α} : a2 ∈ a0 :: a1 :: a2 :: l := (.tail _ (.tail _ (.head _)))
theorem qAf {α : Type _} {p : α → Prop} {a : α} {l : List α} (h : p a ∧ ∀ x ∈ l, p x) : ∀ x ∈ a :: l, p x := List.forall_mem_cons.2 h
def byteAt (s : ByteArray) (j : Nat) : Int := ((s.data.toList[j]?.getD 0).toNat : Int)
theorem byteAt_get (s : ByteArray) (j : Nat) (h : j < s.size) : (s[j].toNat : Int) = byteAt s j := by
 unfold byteAt
 rw [List.getElem?_eq_getElem (by simpa using h)]
 rfl
theorem byteAt_lo (s : ByteArray) (j : Nat) : 0 ≤ byteAt s j := by unfold byteAt; omega
theorem byteAt_hi (s : ByteArray) (j : Nat) : byteAt s j ≤ 255 := by
 unfold byteAt
 have := (s.data.toList[j]?.getD 0).toNat_lt
 omega

def bcells (l : List UInt8) : List Value := l.map fun b => Value.int .u8 (b.toNat : Int)
theorem bcells_length (l : List UInt8) : (bcells l).length = l.length := by simp [bcells]
theorem bcells_append (l m : List UInt8) : bcells (l ++ m) = bcells l ++ bcells m := by simp [bcells]
theorem bcells_one (l : List UInt8) : ∀ u ∈ bcells l, u.oneCell' = true := by
 intro u hu
 simp [bcells] at hu
 obtain ⟨b, _, rfl⟩ := hu
 rfl

theorem cell_new1 (w : World) (v : Value) (T : TypeId) : (w.alloc (.cells #[v] T)).cell? ⟨w.heap.size, 0, none⟩ = some v := cell_one_new w v T 0 v rfl

def OwnsB (w : World) (base : Nat) (T : TypeId) (v : Value) (l : List UInt8) : Prop := w.ownsRow base T 1 v l.length (bcells l)

theorem OwnsB.made (w : World) (base : Nat) (T : TypeId) (hb : base ≤ w.heap.size) : OwnsB (w.alloc (.cells #[] T)) base T (.slice (some ⟨w.heap.size, 0, none⟩) 0 0) [] :=
 World.ownsRow_lit w #[] 0 hb (by unfold maxLen; omega) rfl
theorem OwnsB.below {w w' : World} {base B : Nat} {T : TypeId} {v : Value} {l : List UInt8} (h : OwnsB w base T v l) (hg : w.grownBy w' v.ownBlock) {W : World} (hB : Below B W w) (hb : B ≤ base) (hs : B ≤ w.heap.size) : Below B W w' :=
 hB.grown hg hs fun k hk => Nat.le_trans hb (World.ownsRow.lt h k hk).1

theorem conv_row {P : Program} {w : World} {g : Nat} {cs : Array Value} {U T : TypeId} {l : List UInt8} (h : w.heap[g]? = some (.cells cs U (0, 0))) (n : Nat) (hn : n = l.length) (hc : cs.toList.take n = bcells l) (src dst : TypeId)
  (hs : P.underlying src = some (.slice T)) (he : P.underlying T = some (.int .u8)) (hd : P.underlying dst = some .string) (cap : Nat) :
  (convert src dst (.slice (some ⟨g, 0, none⟩) n cap)).run P w = .ok (.string ⟨l.toArray⟩) w := by
 subst hn
 refine run_convert_bytes_back w src dst T _ cap l hs he hd fun j hj => ?_
 have e : (⟨g, 0, none⟩ : Addr).add j = ⟨g, j, none⟩ := by unfold Addr.add; split <;> simp_all
 rw [e, cell_of_row w g j cs U (0, 0) h]
 have h1 : (cs.toList.take l.length)[j]? = (bcells l)[j]? := by rw [hc]
 rw [List.getElem?_take, if_pos hj] at h1
 simpa [bcells, List.getElem?_map, List.getElem?_eq_getElem hj] using h1

theorem bcell {W w1 : World} (hb : Below W.heap.size W w1) : (∀ b o, b < W.heap.size → w1.cell? ⟨b, o, none⟩ = W.cell? ⟨b, o, none⟩) ∧ (∀ b o, b < W.heap.size → w1.frozen? ⟨b, o, none⟩ = W.frozen? ⟨b, o, none⟩) :=
 ⟨fun b o h => hb.cell (p := ⟨b, o, none⟩) h, fun b o h => hb.frozen (p := ⟨b, o, none⟩) h⟩
def textOut (l : List UInt8) (a c : Int) : Value := .agg #[.string ⟨l.toArray⟩, .int .i64 a, .int .i64 c]
section
variable {P : Program} {w : World}
theorem own_row {w : World} {base : Nat} {e : TypeId} {g n : Nat} {xs : List Value} (h : w.ownsRow base e 1 (.slice (some ⟨g, 0, none⟩) n n) n xs) :
  ∃ cur : List Value, w.heap[g]? = some (.cells cur.toArray e (0, 0)) ∧ cur.length = n := by
 rcases h.2 with ⟨h', _⟩ | ⟨g', cap', cur, h', _, hg, _, _, hc, _⟩
 ·simp at h'
 ·simp only [Value.slice.injEq, Option.some.injEq, Addr.mk.injEq, and_true, true_and] at h'
  obtain ⟨rfl, rfl⟩ := h'
  exact ⟨cur.toList, by simpa using hg, by simpa using hc⟩

theorem wpList_copy_str {ops : Array Oper} {rest : List Oper} {o : Oper} {a : Act} {Q : Exit → Act → World → Prop} (hgd : o.guard = none) (d x : Operand) (dT sT : TypeId)
  (ho : o.op = .call { callee := .builtin .copy, args := #[d, x], argTypes := #[dT, sT] }) (elem : TypeId) (hu : P.underlying dT = some (.slice elem)) (hsz : (P.info? elem).map (·.size) = some 1)
  (s : ByteArray) (hx : a.eval x = .string s) (dp : Option Addr) (dLen dCap : Nat) (hd : a.eval d = .slice dp dLen dCap) (hle : s.size ≤ dLen)
  (g off : Nat) (hpos : 0 < s.size → dp = some ⟨g, off, none⟩) (cur : List Value) (t : TypeId) (hg : w.heap[g]? = some (.cells cur.toArray t (0, 0))) (hfit : off + s.size ≤ cur.length)
  (B : Nat) (w0 : World) (hb : Below B w0 w) (hBg : B ≤ g)
  (h : ∀ w', Hid (w'.heap[g]? = some (.cells (splice cur off (bcells s.data.toList)).toArray t (0, 0))) → Below B w0 w' → wpList P ops Q rest (a.put o.dst (goInt s.size)) w') : wpList P ops Q (o :: rest) a w := by
 refine wpList_plain hgd fun K hK => ?_
 have hl : (bcells s.data.toList).length = s.size := by simp [bcells]
 by_cases h0 : s.size = 0
 ·have hrun := Lib.run_copy_empty_string (P := P) w dT sT o.type elem dp dLen dCap s hu (by rw [hsz]; rfl) h0
  have e : s.data.toList = [] := by
   have : s.data.toList.length = 0 := by simpa using h0
   exact List.eq_nil_of_length_eq_zero this
  unfold Oper.wp
  simp [execOp, ho, resolve, invoke, builtin, hd, hx, hrun, Result.andThen]
  refine hK _ _ ?_
  have := h w (show _ = _ by rw [e]; simpa [splice, bcells] using hg) hb
  rw [h0] at this
  exact this
 ·obtain rfl := hpos (by omega)
  have hrun := Lib.run_copy_row_string (P := P) w dT sT o.type elem g off dLen dCap s cur.toArray t hu hsz hg hle (by simpa using hfit)
  unfold Oper.wp
  simp [execOp, ho, resolve, invoke, builtin, hd, hx, hrun, Result.andThen]
  refine hK _ _ (h _ (show _ = _ from ?_) (below_setRow hb hBg _))
  have := setRow_heap w g cur.toArray (cur.toArray.toList.take off ++ Lib.byteCells s.data.toList ++ cur.toArray.toList.drop (off + s.size)).toArray t (0, 0) hg
  simpa [splice, bcells, Lib.byteCells] using this
end
end Go.Proofs.YtioldepgoodipaaGreat
namespace Go.Proofs.YtioldepgoodipaaGreat
open Go.RowKit
set_option linter.unusedVariables false

def inB (a b n : Int) : Bool := decide (a ≤ n) && decide (n ≤ b)
theorem inB_yes {a b n : Int} (h1 : a ≤ n) (h2 : n ≤ b) : inB a b n = true := by simp [inB, h1, h2]
theorem inB_of {a b n : Int} (h : inB a b n = true) : a ≤ n ∧ n ≤ b := by simpa [inB] using h
theorem inB_no {a b n : Int} (h : ¬ (a ≤ n ∧ n ≤ b)) : inB a b n = false := by
 rw [Bool.eq_false_iff]
 exact fun q => h (inB_of q)

theorem from0_any (n m : Int) (w : World) :
  Calls Tryz.prog 131 #[.int .i64 n, .int .i64 m] w fun e w' => e = .returned (.bool (inB 0 m n)) ∧ w = w' := by
 by_cases h1 : 0 ≤ n
 ·have hd : decide (0 ≤ n) = true := decide_eq_true h1
  go_enter Tryz.func131, Tryz.ntmps131
  go_wp2
  go_ret
  exact ⟨by simp [inB, h1], rfl⟩
 ·have hd : decide (0 ≤ n) = false := decide_eq_false h1
  go_enter Tryz.func131, Tryz.ntmps131
  go_wp2
  go_ret
  exact ⟨by simp [inB, hd], rfl⟩
theorem l02Is_any (n a b : Int) (w : World) :
  Calls Tryz.prog 82 #[.int .i64 n, .int .i64 a, .int .i64 b] w fun e w' => e = .returned (.bool (inB a b n)) ∧ w = w' := by
 by_cases h1 : a ≤ n
 ·have hd : decide (a ≤ n) = true := decide_eq_true h1
  go_enter Tryz.func82, Tryz.ntmps82
  go_wp2
  go_ret
  exact ⟨by simp [inB, h1], rfl⟩
 ·have hd : decide (a ≤ n) = false := decide_eq_false h1
  go_enter Tryz.func82, Tryz.ntmps82
  go_wp2
  go_ret
  exact ⟨by simp [inB, hd], rfl⟩
theorem l02Pgn_any (n : Int) (w : World) :
  Calls Tryz.prog 154 #[.int .i64 n] w fun e w' => e = .returned (.bool (inB 0 131071 n)) ∧ w = w' := by
 go_enter Tryz.func154, Tryz.ntmps154
 go_wp2_with fail
 refine (l02Is_any _ _ _ _).mono ?_
 rintro e w' ⟨rfl, rfl⟩
 go_wp2
 go_ret
 exact ⟨rfl, rfl⟩

def wideB (p : Int) : Bool := decide (0 ≤ p) && decide (240 ≤ p / 256 % 256)
def broadB (p : Int) : Bool := inB 0 131071 p && wideB p

theorem wide_neg {p : Int} (h : p < 0) : ¬ 240 ≤ (p.tdiv 256).tmod 256 := by
 obtain ⟨q, rfl⟩ : ∃ q : Int, p = -q := ⟨-p, by omega⟩
 rw [Int.neg_tdiv, Int.neg_tmod, Int.tdiv_eq_ediv_of_nonneg (by omega), Int.tmod_eq_emod_of_nonneg (by omega)]
 omega

theorem l02Broad_any (p : Int) (w : World) (h0 : -9223372036854775808 ≤ p) (h1 : p ≤ 9223372036854775807) :
  Calls Tryz.prog 86 #[.int .i64 p] w fun e w' => e = .returned (.bool (wideB p)) ∧ w = w' := by
 by_cases h : 0 ≤ p
 ·go_enter Tryz.func86, Tryz.ntmps86
  go_wp2
  go_ret
  exact ⟨by simp [wideB, h], rfl⟩
 ·have hd : decide (240 ≤ (p.tdiv 256).tmod 256) = false := decide_eq_false (wide_neg (by omega))
  go_enter Tryz.func86, Tryz.ntmps86
  go_wp2
  go_ret
  exact ⟨by simp [wideB]; omega, rfl⟩
theorem broadB_no {p : Int} (h : inB 0 131071 p = false) : broadB p = false := by simp [broadB, h]
theorem implBroad_any (p : Int) (w : World) :
  Calls Tryz.prog 210 #[.int .i64 p] w fun e w' => e = .returned (.bool (broadB p)) ∧ w = w' := by
 rcases h : inB 0 131071 p
 ·go_enter Tryz.func210, Tryz.ntmps210
  go_wp2_with fail
  refine (from0_any _ _ _).mono ?_
  rw [h]
  rintro e w' ⟨rfl, rfl⟩
  go_wp2
  go_ret
  exact ⟨by rw [broadB_no h]; rfl, rfl⟩
 ·have hp := inB_of h
  go_enter Tryz.func210, Tryz.ntmps210
  go_wp2_with fail
  refine (from0_any _ _ _).mono ?_
  rw [h]
  rintro e w' ⟨rfl, rfl⟩
  go_wp2
  go_ret
  exact ⟨by simp [broadB, wideB, h, hp], rfl⟩
end Go.Proofs.YtioldepgoodipaaGreat
namespace Go.Proofs.YtioldepgoodipaaGreat
open Go.RowKit
set_option linter.unusedVariables false

structure Out (lo hi : Nat) (w w' : World) : Prop where
 os : w'.os = w.os
 tape : w'.tape = w.tape
 output : w'.output = w.output
 size : w.heap.size ≤ w'.heap.size
 block : ∀ k, k < w.heap.size → (k < lo ∨ hi ≤ k) → w'.heap[k]? = w.heap[k]?
theorem Out.of_below {lo hi : Nat} {w w' : World} (h : Below w.heap.size w w') : Out lo hi w w' := ⟨h.os, h.tape, h.output, h.size, fun k hk _ => h.block k hk⟩
theorem Out.refl (lo hi : Nat) (w : World) : Out lo hi w w := ⟨rfl, rfl, rfl, Nat.le_refl _, fun _ _ _ => rfl⟩
theorem Out.trans {lo hi : Nat} {a b c : World} (h : Out lo hi a b) (k : Out lo hi b c) : Out lo hi a c :=
 ⟨k.os.trans h.os, k.tape.trans h.tape, k.output.trans h.output, Nat.le_trans h.size k.size, fun i hi h' => (k.block i (Nat.lt_of_lt_of_le hi h.size) h').trans (h.block i hi h')⟩
theorem Out.setCell {lo hi : Nat} {a w : World} (h : Out lo hi a w) {p : Addr} (h1 : lo ≤ p.block) (h2 : p.block < hi) (u : Value) : Out lo hi a (w.setCell p u) :=
 h.trans ⟨rfl, rfl, rfl, by simp [World.setCell], fun k hk h' => Below.heap_setCell _ _ _ _ (by omega)⟩
theorem Out.below {B lo hi : Nat} {w0 w w' : World} (h : Out lo hi w w') (hb : Below B w0 w) (hB : B ≤ lo) (hs : B ≤ w.heap.size) : Below B w0 w' :=
 hb.trans ⟨h.os, h.tape, h.output, h.size, fun k hk => h.block k (by omega) (.inl (by omega))⟩
theorem Out.cell {lo hi : Nat} {w w' : World} (h : Out lo hi w w') {p : Addr} (hp : p.block < w.heap.size) (h' : p.block < lo ∨ hi ≤ p.block) : w'.cell? p = w.cell? p := World.cell?_of_block (w := w) (h.block p.block hp h')
theorem Out.frozen {lo hi : Nat} {w w' : World} (h : Out lo hi w w') {p : Addr} (hp : p.block < w.heap.size) (h' : p.block < lo ∨ hi ≤ p.block) : w'.frozen? p = w.frozen? p := World.frozen?_of_block (w := w) (h.block p.block hp h')

def OneS (wr : World) (p : Addr) (v : Value) (W : World) : Prop := W.cell? p = some v ∧ Below wr.heap.size wr W
theorem one_first {wr : World} {p : Addr} {v : Value} (h : wr.cell? p = some v) : OneS wr p v wr.drew := ⟨h, (Below.refl _ _).drew⟩
theorem one_call {wr W W' : World} {p : Addr} {v : Value} (l : p.block < wr.heap.size) (h : OneS wr p v W) (hb : Below W.heap.size W W') : OneS wr p v W' :=
 ⟨(hb.cell (Nat.lt_of_lt_of_le l h.2.size)).trans h.1, h.2.trans (hb.mono h.2.size)⟩
def OneB (B : Nat) (wr : World) (p : Addr) (v : Value) (W : World) : Prop := W.cell? p = some v ∧ Below B wr W
section
variable {B : Nat} {wr W W' : World} {p : Addr} {v : Value}
end
structure RowAt (W : World) (R : Nat) (vs : List Value) : Prop where
 lt : R < W.heap.size
 get : ∀ (j : Nat) u, vs[j]? = some u → W.cell? ⟨R, j, none⟩ = some u
 free : ∀ j, W.frozen? ⟨R, j, none⟩ = false
section
variable {W W' : World} {R : Nat} {vs : List Value}
theorem RowAt.new (w : World) (cs : Array Value) (T : TypeId) : RowAt (w.alloc (.cells cs T)) w.heap.size cs.toList :=
 ⟨by simp, fun j u h => by rw [World.cell?_alloc_mark]; simpa using h, fun j => by rw [World.frozen?_alloc_mark]; simp⟩
theorem RowAt.kept (h : RowAt W R vs) (hb : Below W.heap.size W W') : RowAt W' R vs :=
 ⟨Nat.lt_of_lt_of_le h.lt hb.size, fun j u hu => (hb.cell (p := ⟨R, j, none⟩) h.lt).trans (h.get j u hu), fun j => (hb.frozen (p := ⟨R, j, none⟩) h.lt).trans (h.free j)⟩
theorem RowAt.alloc (h : RowAt W R vs) (o : Obj) : RowAt (W.alloc o) R vs := h.kept ((Below.refl _ _).alloc (Nat.le_refl _) o)
theorem RowAt.drew (h : RowAt W R vs) : RowAt W.drew R vs := h.kept (Below.refl _ _).drew
theorem RowAt.out {lo hi : Nat} (h : RowAt W R vs) (ho : Out lo hi W W') (hd : R < lo ∨ hi ≤ R) : RowAt W' R vs :=
 ⟨Nat.lt_of_lt_of_le h.lt ho.size, fun j u hu => (ho.cell (p := ⟨R, j, none⟩) h.lt hd).trans (h.get j u hu), fun j => (ho.frozen (p := ⟨R, j, none⟩) h.lt hd).trans (h.free j)⟩
theorem RowAt.below {B : Nat} (h : RowAt W R vs) (hb : Below B W W') (hR : R < B) : RowAt W' R vs :=
 ⟨Nat.lt_of_lt_of_le h.lt hb.size, fun j u hu => (hb.cell (p := ⟨R, j, none⟩) hR).trans (h.get j u hu), fun j => (hb.frozen (p := ⟨R, j, none⟩) hR).trans (h.free j)⟩
end
theorem Out.of_grown {lo hi : Nat} {w w' : World} {row : Option Nat} (hg : w.grownBy w' row) (h : ∀ k, row = some k → lo ≤ k ∧ k < hi) : Out lo hi w w' :=
 ⟨hg.os, hg.tape, hg.output, hg.size, fun k hk h' => hg.block k hk (fun e => by have := h k e.symm; omega)⟩
theorem owns_slice {w : World} {base : Nat} {e : TypeId} {s : Nat} {v : Value} {n : Nat} {xs : List Value} (h : w.ownsRow base e s v n xs) : ∃ a c, v = .slice a n c := by
 rcases h.2 with ⟨rfl, hn⟩ | ⟨g, cap, cur, rfl, _⟩
 ·exact ⟨none, 0, by rw [hn]⟩
 ·exact ⟨_, _, rfl⟩
theorem owns_set {w : World} {base : Nat} {e : TypeId} {s : Nat} {v : Value} {n : Nat} {xs : List Value} (h : w.ownsRow base e s v n xs) {p : Addr} (hne : v.ownBlock ≠ some p.block) (u : Value) : (w.setCell p u).ownsRow base e s v n xs :=
 h.kept (row := some p.block) ⟨rfl, rfl, rfl, by simp [World.setCell], fun k hk hn => Below.heap_setCell _ _ _ _ (fun q => hn (by rw [q]))⟩ (.inr hne)
theorem owns_set_lt {w : World} {base : Nat} {e : TypeId} {s : Nat} {v : Value} {n : Nat} {xs : List Value} (h : w.ownsRow base e s v n xs) {p : Addr} (hp : p.block < base) (u : Value) : (w.setCell p u).ownsRow base e s v n xs :=
 owns_set h (fun q => by have := (World.ownsRow.lt h _ q).1; omega) u
theorem owns_ne {w : World} {base : Nat} {e e' : TypeId} {s : Nat} {v : Value} {n : Nat} {xs : List Value} (h : w.ownsRow base e s v n xs) {k : Nat} {cs : Array Value} {fr : Nat × Nat} (hk : w.heap[k]? = some (.cells cs e' fr)) (he : e' ≠ e) : v.ownBlock ≠ some k := by
 rcases h.2 with ⟨rfl, _⟩ | ⟨g, cap, cur, rfl, _, hg, _⟩
 ·intro q; cases q
 ·intro q
  simp [Value.ownBlock] at q
  subst q
  rw [hg] at hk
  simp at hk
  exact he hk.2.1.symm
def TwoS (wr : World) (p q : Addr) (u v : Value) (W : World) : Prop := (W.cell? p = some u ∧ W.cell? q = some v) ∧ Below wr.heap.size wr W
section
variable {wr W W' w0 : World} {p q : Addr} {u v : Value} {B : Nat}
end
theorem quietCall {P : Program} {f : FuncId} {args : Array Value} {U W : World} {v : Value} (hW : Below U.heap.size U W) (h : Calls P f args W fun e w' => e = .returned v ∧ Below W.heap.size W w') :
  Calls P f args W fun e w' => e = .returned v ∧ Below U.heap.size U w' := h.mono fun _ _ ⟨e, hb⟩ => ⟨e, hW.trans (hb.mono hW.size)⟩
theorem quietSame {P : Program} {f : FuncId} {args : Array Value} {U W : World} {v : Value} (hW : Below U.heap.size U W) (h : Calls P f args W fun e w' => e = .returned v ∧ W = w') :
  Calls P f args W fun e w' => e = .returned v ∧ Below U.heap.size U w' := h.mono fun _ _ ⟨e, hb⟩ => ⟨e, hb ▸ hW⟩
end Go.Proofs.YtioldepgoodipaaGreat
namespace Go.Proofs.YtioldepgoodipaaGreat
open Go.RowKit
set_option linter.unusedVariables false

theorem Out.of_setRow (w : World) (g : Nat) (cs : Array Value) : Out g (g + 1) w (w.setRow g cs) :=
 ⟨rfl, rfl, rfl, by simp, fun k hk h => setRow_other w g k cs (by omega)⟩
end Go.Proofs.YtioldepgoodipaaGreat
namespace Go.Proofs.YtioldepgoodipaaGreat
open Go.RowKit
set_option linter.unusedVariables false

def NumsIn (w : World) (a : Option Addr) (l : List Int) : Prop :=
 l = [] ∨ ∃ b o, a = some ⟨b, o, none⟩ ∧ b < w.heap.size ∧ ∀ (i : Nat) x, l[i]? = some x → w.cell? ⟨b, o + i, none⟩ = some (.int .i64 x)
def Nums64 (l : List Int) : Prop := ∀ x ∈ l, -9223372036854775808 ≤ x ∧ x ≤ 9223372036854775807
def NumsNew (lo hi : Nat) (w : World) (a : Option Addr) (l : List Int) : Prop :=
 l = [] ∨ ∃ b o, a = some ⟨b, o, none⟩ ∧ lo ≤ b ∧ b < hi ∧ b < w.heap.size ∧ (∀ j, j < l.length → w.frozen? ⟨b, o + j, none⟩ = false) ∧ ∀ (i : Nat) x, l[i]? = some x → w.cell? ⟨b, o + i, none⟩ = some (.int .i64 x)
def numAt (l : List Int) (i : Nat) : Int := l[i]?.getD 0
theorem numAt_some {l : List Int} {i : Nat} (h : i < l.length) : l[i]? = some (numAt l i) := by
 unfold numAt
 rw [List.getElem?_eq_getElem h]
 rfl
section
variable {lo hi lo' hi' B : Nat} {w w' : World} {a : Option Addr} {l : List Int}
theorem NumsIn.at (h : NumsIn w a l) (hl : 0 < l.length) : ∃ b o, a = some ⟨b, o, none⟩ ∧ b < w.heap.size ∧ ∀ (i : Nat) x, l[i]? = some x → w.cell? ⟨b, o + i, none⟩ = some (.int .i64 x) := by
 rcases h with rfl | h
 ·simp at hl
 ·exact h
theorem NumsIn.kept (h : NumsIn w a l) (hb : Below w.heap.size w w') : NumsIn w' a l := by
 rcases h with h | ⟨b, o, rfl, hlt, hc⟩
 ·exact .inl h
 ·exact .inr ⟨b, o, rfl, Nat.lt_of_lt_of_le hlt hb.size, fun i x hi => (hb.cell (p := ⟨b, _, none⟩) hlt).trans (hc i x hi)⟩
theorem NumsIn.out (h : NumsIn w a l) (ho : Out lo hi w w') (hd : ∀ b o, a = some ⟨b, o, none⟩ → b < lo ∨ hi ≤ b) : NumsIn w' a l := by
 rcases h with h | ⟨b, o, rfl, hlt, hc⟩
 ·exact .inl h
 ·exact .inr ⟨b, o, rfl, Nat.lt_of_lt_of_le hlt ho.size, fun i x hi => (ho.cell (p := ⟨b, _, none⟩) hlt (hd b o rfl)).trans (hc i x hi)⟩
theorem NumsNew.nums (h : NumsNew lo hi w a l) : NumsIn w a l := by
 rcases h with h | ⟨b, o, rfl, _, _, hlt, _, hc⟩
 ·exact .inl h
 ·exact .inr ⟨b, o, rfl, hlt, hc⟩
theorem NumsNew.wide (h : NumsNew lo hi w a l) (h1 : lo' ≤ lo) (h2 : hi ≤ hi') : NumsNew lo' hi' w a l := by
 rcases h with h | ⟨b, o, rfl, h3, h4, hlt, hf, hc⟩
 ·exact .inl h
 ·exact .inr ⟨b, o, rfl, by omega, by omega, hlt, hf, hc⟩
theorem NumsNew.out (h : NumsNew lo hi w a l) (ho : Out lo' hi' w w') (hd : hi ≤ lo' ∨ hi' ≤ lo) : NumsNew lo hi w' a l := by
 rcases h with h | ⟨b, o, rfl, h3, h4, hlt, hf, hc⟩
 ·exact .inl h
 ·have hx : b < lo' ∨ hi' ≤ b := by omega
  exact .inr ⟨b, o, rfl, h3, h4, Nat.lt_of_lt_of_le hlt ho.size, fun j hj => (ho.frozen (p := ⟨b, _, none⟩) hlt hx).trans (hf j hj), fun i x hi => (ho.cell (p := ⟨b, _, none⟩) hlt hx).trans (hc i x hi)⟩
theorem NumsNew.kept (h : NumsNew lo hi w a l) (hb : Below w.heap.size w w') : NumsNew lo hi w' a l := by
 rcases h with h | ⟨b, o, rfl, h3, h4, hlt, hf, hc⟩
 ·exact .inl h
 ·exact .inr ⟨b, o, rfl, h3, h4, Nat.lt_of_lt_of_le hlt hb.size, fun j hj => (hb.frozen (p := ⟨b, _, none⟩) hlt).trans (hf j hj), fun i x hi => (hb.cell (p := ⟨b, _, none⟩) hlt).trans (hc i x hi)⟩
end
def ncells (l : List Int) : List Value := l.map (Value.int .i64)
theorem ncells_append (l m : List Int) : ncells (l ++ m) = ncells l ++ ncells m := by simp [ncells]
theorem ncells_one (l : List Int) : ∀ u ∈ ncells l, u.oneCell' = true := by
 intro u hu
 simp [ncells] at hu
 obtain ⟨b, _, rfl⟩ := hu
 rfl
theorem ncells_at (l : List Int) (i : Nat) (x : Int) (h : l[i]? = some x) : (ncells l)[i]? = some (.int .i64 x) := by
 simp [ncells, h]
theorem nums_cells {w : World} {b o : Nat} {l : List Int} (hc : ∀ (i : Nat) x, l[i]? = some x → w.cell? ⟨b, o + i, none⟩ = some (.int .i64 x)) :
  ∀ j u, (ncells l)[j]? = some u → w.cell? ((⟨b, o, none⟩ : Addr).add j) = some u := by
 intro j u h
 have e : (⟨b, o, none⟩ : Addr).add j = ⟨b, o + j, none⟩ := by unfold Addr.add; split <;> simp_all
 rw [e]
 simp [ncells] at h
 obtain ⟨x, hx, rfl⟩ := h
 exact hc j x hx
end Go.Proofs.YtioldepgoodipaaGreat
namespace Go.Proofs.YtioldepgoodipaaGreat
open Go.RowKit
set_option linter.unusedVariables false

def setAll : Array Value → Nat → List Value → Array Value
 | cs, _, [] => cs
 | cs, o, v :: r => setAll (cs.setIfInBounds o v) (o + 1) r
theorem heap_setCells (g : Nat) (t : TypeId) : ∀ (vs : List Value) (w : World) (o : Nat) (cs : Array Value), w.heap[g]? = some (.cells cs t (0, 0)) → (w.setCells g o vs).heap[g]? = some (.cells (setAll cs o vs) t (0, 0))
 | [], _, _, _, h => h
 | v :: r, w, o, cs, h => heap_setCells g t r _ (o + 1) _ (Go.heap_setCell_same w g o cs t v h)
theorem out_setCells (g : Nat) : ∀ (vs : List Value) (w : World) (o : Nat), Out g (g + 1) w (w.setCells g o vs)
 | [], w, _ => Out.refl _ _ w
 | v :: r, w, o => ((Out.refl g (g + 1) w).setCell (p := ⟨g, o, none⟩) (Nat.le_refl _) (Nat.lt_succ_self _) v).trans (out_setCells g r _ (o + 1))
section
variable {P : Program} {ops : Array Oper} {rest : List Oper} {o : Oper} {a : Act} {w : World} {Q : Exit → Act → World → Prop}
theorem wpList_box_h (hgd : Region.wanted o (yielded ops a.tmps) = true) (e : TypeId) (x : Operand) (ho : o.op = .box e x) (cells : Array Value) (hx : (a.eval x).cells = cells)
  (h : ∀ w' R, w.heap.size = R → w'.heap[R]? = some (.cells cells e (0, 0)) → Below w.heap.size w w' → wpList P ops Q rest (a.put o.dst (.pointer (some ⟨R, 0, none⟩))) w') : wpList P ops Q (o :: rest) a w :=
 BigFrame.wpList_want hgd fun K hK => by
  unfold Oper.wp execOp
  have := hK _ _ (h (w.alloc (.cells cells e)) _ rfl (heap_alloc_new _ _) ((Below.refl _ _).alloc (Nat.le_refl _) _))
  simp only [ho, Sem.run_bind, Instr.box, newVar, newRow, hx, run_newObj_alloc, Sem.run_pure, Result.andThen_ok]
  exact this
theorem wpList_alloc_h (hgd : Region.wanted o (yielded ops a.tmps) = true) (e : TypeId) (ho : o.op = .alloc e) (z : Value) (hz : (P.info? e).map (·.zero) = some (some z)) (cells : Array Value) (hc : z.cells = cells)
  (h : ∀ w' R, w.heap.size = R → w'.heap[R]? = some (.cells cells e (0, 0)) → Below w.heap.size w w' → wpList P ops Q rest (a.put o.dst (.pointer (some ⟨R, 0, none⟩))) w') : wpList P ops Q (o :: rest) a w :=
 BigFrame.wpList_want hgd fun K hK => by
  unfold Oper.wp execOp
  have := hK _ _ (h (w.alloc (.cells cells e)) _ rfl (heap_alloc_new _ _) ((Below.refl _ _).alloc (Nat.le_refl _) _))
  cases hi : P.info? e with
  | none => simp [hi] at hz
  | some i =>
   have hz' : i.zero = some z := by simpa [hi] using hz
   simp [ho, Instr.alloc, zeroValue, typeInfo, hi, hz', newVar, newRow, hc, run_newObj_alloc, -run_newObj, Result.andThen_ok]
   exact this
theorem wpList_put_at (hgd : Region.wanted o (yielded ops a.tmps) = true) (ty : TypeId) (x y : Operand) (ho : o.op = .store ty x y) (hd : o.dst = none) (g k : Nat) (hx : a.eval x = .pointer (some ⟨g, k, none⟩))
  (v : Value) (hy : a.eval y = v) (cells : Array Value) (hcs : v.cells = cells) (t : TypeId) (old new : Array Value) (hg : w.heap[g]? = some (.cells old t (0, 0))) (hi : (P.info? ty).map (·.size) = some cells.size)
  (hk0 : Nat.ble (k + cells.size) old.size = true) (h1 : cells.toList.all (·.oneCell') = true) (hnew : setAll old k cells.toList = new)
  (h : ∀ w', w'.heap[g]? = some (.cells new t (0, 0)) → Out g (g + 1) w w' → wpList P ops Q rest a w') : wpList P ops Q (o :: rest) a w :=
 BigFrame.wpList_want hgd fun K hK => by
  have hk : k + cells.size ≤ old.size := Nat.le_of_ble_eq_true hk0
  have ht : w.there g k cells.size := fun j hj => by
   refine ⟨?_, frozen_of_row w g (k + j) old t hg⟩
   rw [cell_of_row w g (k + j) old t (0, 0) hg, Array.getElem?_eq_getElem (by omega)]
   rfl
  have hrun := run_storeCells_cells (P := P) g k cells.toList 0 w (fun j hj => by simpa using (ht j (by simpa using hj)).1) (fun j hj => by simpa using (ht j (by simpa using hj)).2)
   (fun v hv => List.all_eq_true.1 h1 v hv)
  have hrun2 : (storeVar ty ⟨g, k, none⟩ v).run P w = .ok () (w.setCells g k cells.toList) := by
   cases hq : P.info? ty with
   | none => simp [hq] at hi
   | some i =>
    have hs : cells.size = i.size := by simp [hq] at hi; omega
    simp only [Nat.add_zero] at hrun
    simp [storeVar, sizeOf, typeInfo, hq, hcs, hs, hrun]
  unfold Oper.wp execOp
  simp only [ho, hx, hy, Instr.storeAt, Instr.sureAddr, Sem.run_bind, Sem.run_pure, Result.andThen_ok, hrun2]
  refine hK _ _ ?_
  rw [hd]
  exact h _ (hnew ▸ heap_setCells g t cells.toList w k old hg) (out_setCells g cells.toList w k)
theorem wpList_load_at (hgd : Region.wanted o (yielded ops a.tmps) = true) (ty : TypeId) (x : Operand) (ho : o.op = .load ty x) (g k : Nat) (hx : a.eval x = .pointer (some ⟨g, k, none⟩)) (t : TypeId) (row : Array Value) (fr : Nat × Nat) (hg : w.heap[g]? = some (.cells row t fr))
  (cs : List Value) (hcs : (row.toList.drop k).take cs.length = cs) (d : TypeDesc) (hu : P.underlying ty = some d) (hd : d.isRow = true) (hi : (P.info? ty).map (·.size) = some cs.length)
  (h : wpList P ops Q rest (a.put o.dst (.agg cs.toArray)) w) : wpList P ops Q (o :: rest) a w :=
 BigFrame.wpList_want hgd fun _ hK => wp_load_mid ty x ho g k hx cs d (fun j v hv => by
  rw [cell_of_row w g (k + j) row t fr hg]
  have h1 : ((row.toList.drop k).take cs.length)[j]? = some v := by rw [hcs]; exact hv
  rw [List.getElem?_take] at h1
  split at h1
  ·rw [List.getElem?_drop] at h1
   simpa using h1
  ·cases h1) hu hd hi (hK _ _ h)
theorem wpList_load_one (hgd : Region.wanted o (yielded ops a.tmps) = true) (ty : TypeId) (x : Operand) (ho : o.op = .load ty x) (g k : Nat) (hx : a.eval x = .pointer (some ⟨g, k, none⟩)) (t : TypeId) (row : Array Value) (fr : Nat × Nat) (hg : w.heap[g]? = some (.cells row t fr))
  (v : Value) (hv : row[k]? = some v) (d : TypeDesc) (hu : P.underlying ty = some d) (hd : d.isRow = false) (hi : (P.info? ty).map (·.size) = some 1)
  (h : wpList P ops Q rest (a.put o.dst v) w) : wpList P ops Q (o :: rest) a w :=
 BigFrame.wpList_want hgd fun K hK => by
  have hagg : (isAgg ty).run P w = .ok false w := by
   unfold isAgg
   rw [Sem.run_bind, run_underlying hu w]
   cases d <;> simp_all
  have hc : w.cell? ⟨g, k, none⟩ = some v := (cell_of_row w g k row t fr hg).trans hv
  have hrun : (loadVar ty ⟨g, k, none⟩).run P w = .ok v w := by
   simp [loadVar, Sem.run_bind, hagg, run_load, hc]
  unfold Oper.wp execOp
  simp only [ho, hx, Instr.loadAt, Instr.sureAddr, Sem.run_bind, Sem.run_pure, Result.andThen_ok, hrun]
  exact hK _ _ h
end
structure Lv (w W : World) (rs : List (Nat × Array Value × TypeId)) (ns : List (Nat × Nat × Option Addr × List Int)) : Prop where
 below : Below w.heap.size w W
 row : ∀ r ∈ rs, w.heap.size ≤ r.1 ∧ W.heap[r.1]? = some (.cells r.2.1 r.2.2 (0, 0))
 new : ∀ n ∈ ns, (w.heap.size ≤ n.1 ∧ n.1 ≤ n.2.1 ∧ n.2.1 ≤ W.heap.size) ∧ NumsNew n.1 n.2.1 W n.2.2.1 n.2.2.2
section
variable {w W W' : World} {rs rs' : List (Nat × Array Value × TypeId)} {ns ns' : List (Nat × Nat × Option Addr × List Int)}
theorem Lv.first (w : World) : Lv w w [] [] := ⟨Below.refl _ _, fun r hr => (by cases hr), fun n hn => (by cases hn)⟩
theorem Lv.kept (h : Lv w W rs ns) (hb : Below W.heap.size W W') : Lv w W' rs ns :=
 ⟨h.below.trans (hb.mono h.below.size), fun r hr => ⟨(h.row r hr).1, (hb.block _ (Array.getElem?_eq_some_iff.1 (h.row r hr).2).1).trans (h.row r hr).2⟩, fun n hn => ⟨⟨(h.new n hn).1.1, (h.new n hn).1.2.1, Nat.le_trans (h.new n hn).1.2.2 hb.size⟩, (h.new n hn).2.kept hb⟩⟩
theorem Lv.addRow (h : Lv w W rs ns) {g : Nat} {cs : Array Value} {T : TypeId} (hg : W.heap[g]? = some (.cells cs T (0, 0))) (hle : w.heap.size ≤ g) : Lv w W ((g, cs, T) :: rs) ns :=
 ⟨h.below, fun r hr => by
  rcases List.mem_cons.1 hr with rfl | hr
  ·exact ⟨hle, hg⟩
  ·exact h.row r hr, h.new⟩
theorem Lv.box (h : Lv w W rs ns) {R : Nat} {cs : Array Value} {T : TypeId} (hR : W.heap.size = R) (hg : W'.heap[R]? = some (.cells cs T (0, 0))) (hb : Below W.heap.size W W') : Lv w W' ((R, cs, T) :: rs) ns :=
 (h.kept hb).addRow hg (hR ▸ h.below.size)
theorem Lv.addNew (h : Lv w W rs ns) {lo hi : Nat} {a : Option Addr} {l : List Int} (hn : NumsNew lo hi W a l) (hle : w.heap.size ≤ lo) (hlh : lo ≤ hi) (hhi : hi ≤ W.heap.size) : Lv w W rs ((lo, hi, a, l) :: ns) :=
 ⟨h.below, h.row, fun n h' => by
  rcases List.mem_cons.1 h' with rfl | h'
  ·exact ⟨⟨hle, hlh, hhi⟩, hn⟩
  ·exact h.new n h'⟩
theorem Lv.less (h : Lv w W rs ns) (h1 : ∀ r ∈ rs', r ∈ rs) (h2 : ∀ n ∈ ns', n ∈ ns) : Lv w W rs' ns' := ⟨h.below, fun r hr => h.row r (h1 r hr), fun n hn => h.new n (h2 n hn)⟩
theorem Lv.get (h : Lv w W rs ns) {g : Nat} {cs : Array Value} {T : TypeId} (hm : (g, cs, T) ∈ rs) : W.heap[g]? = some (.cells cs T (0, 0)) := (h.row _ hm).2
theorem Lv.lt (h : Lv w W rs ns) {g : Nat} {cs : Array Value} {T : TypeId} (hm : (g, cs, T) ∈ rs) : g < W.heap.size := (Array.getElem?_eq_some_iff.1 (h.row _ hm).2).1
theorem Lv.at (h : Lv w W rs ns) {lo hi : Nat} {a : Option Addr} {l : List Int} (hm : (lo, hi, a, l) ∈ ns) : NumsNew lo hi W a l := (h.new _ hm).2
theorem Lv.out {lo hi : Nat} (h : Lv w W rs ns) (ho : Out lo hi W W') (hlo : w.heap.size ≤ lo) (hr : ∀ r ∈ rs, r.1 < lo ∨ hi ≤ r.1) (hn : ∀ n ∈ ns, n.2.1 ≤ lo ∨ hi ≤ n.1) : Lv w W' rs ns :=
 ⟨ho.below h.below hlo h.below.size, fun r h' => ⟨(h.row r h').1, (ho.block _ (Array.getElem?_eq_some_iff.1 (h.row r h').2).1 (hr r h')).trans (h.row r h').2⟩, fun n h' => ⟨⟨(h.new n h').1.1, (h.new n h').1.2.1, Nat.le_trans (h.new n h').1.2.2 ho.size⟩, (h.new n h').2.out ho (hn n h')⟩⟩
theorem Lv.put (h : Lv w W rs ns) (i : Nat) {g : Nat} {old new : Array Value} {T : TypeId} (hm : rs[i]? = some (g, old, T)) (hg : W'.heap[g]? = some (.cells new T (0, 0))) (ho : Out g (g + 1) W W')
  (h1 : ∀ r ∈ rs.eraseIdx i, r.1 ≠ g) (h2 : ∀ n ∈ ns, n.2.1 ≤ g ∨ g + 1 ≤ n.1) (hrs : rs' = rs.set i (g, new, T)) : Lv w W' rs' ns := by
 have hin := h.row _ (List.mem_of_getElem? hm)
 refine ⟨ho.below h.below hin.1 h.below.size, fun r hr => ?_, fun n hn => ⟨⟨(h.new n hn).1.1, (h.new n hn).1.2.1, Nat.le_trans (h.new n hn).1.2.2 ho.size⟩, (h.new n hn).2.out ho (h2 n hn)⟩⟩
 subst hrs
 obtain ⟨j, hj⟩ := List.getElem?_of_mem hr
 rw [List.getElem?_set] at hj
 split at hj
 ·rename_i hij
  split at hj
  ·cases hj
   exact ⟨hin.1, hg⟩
  ·cases hj
 ·rename_i hij
  have hr' : r ∈ rs := List.mem_of_getElem? hj
  have hne : r.1 ≠ g := h1 r (by
   rw [List.mem_eraseIdx_iff_getElem?]
   exact ⟨j, fun e => hij e.symm, hj⟩)
  refine ⟨(h.row r hr').1, ?_⟩
  exact (ho.block _ (Array.getElem?_eq_some_iff.1 (h.row r hr').2).1 (by omega)).trans (h.row r hr').2
theorem Lv.mark (h : Lv w W rs ns) (i : Nat) {lo hi : Nat} {a : Option Addr} {l l' : List Int} (hm : ns[i]? = some (lo, hi, a, l)) (ho : Out lo hi W W') (hn : NumsNew lo hi W' a l')
  (hr : ∀ r ∈ rs, r.1 < lo ∨ hi ≤ r.1) (h2 : ∀ n ∈ ns.eraseIdx i, n.2.1 ≤ lo ∨ hi ≤ n.1) (hns : ns' = ns.set i (lo, hi, a, l')) : Lv w W' rs ns' := by
 have hin := h.new _ (List.mem_of_getElem? hm)
 refine ⟨ho.below h.below hin.1.1 h.below.size, fun r h' => ⟨(h.row r h').1, (ho.block _ (Array.getElem?_eq_some_iff.1 (h.row r h').2).1 (hr r h')).trans (h.row r h').2⟩, fun n hn' => ?_⟩
 subst hns
 obtain ⟨j, hj⟩ := List.getElem?_of_mem hn'
 rw [List.getElem?_set] at hj
 split at hj
 ·split at hj
  ·cases hj
   exact ⟨⟨hin.1.1, hin.1.2.1, Nat.le_trans hin.1.2.2 ho.size⟩, hn⟩
  ·cases hj
 ·rename_i hij
  have hn2 : n ∈ ns := List.mem_of_getElem? hj
  have hne := h2 n (by
   rw [List.mem_eraseIdx_iff_getElem?]
   exact ⟨j, fun e => hij e.symm, hj⟩)
  exact ⟨⟨(h.new n hn2).1.1, (h.new n hn2).1.2.1, Nat.le_trans (h.new n hn2).1.2.2 ho.size⟩, (h.new n hn2).2.out ho hne⟩
theorem Lv.made (h : Lv w W rs ns) {lo hi : Nat} {a : Option Addr} {l : List Int} (hlo : W.heap.size = lo) (hhi : W'.heap.size = hi) (hb : Below W.heap.size W W') (hn : NumsNew W.heap.size W'.heap.size W' a l) : Lv w W' rs ((lo, hi, a, l) :: ns) := by
 subst hlo hhi
 exact (h.kept hb).addNew hn h.below.size hb.size (Nat.le_refl _)
theorem Lv.hi (h : Lv w W rs ns) {lo hi : Nat} {a : Option Addr} {l : List Int} (hm : (lo, hi, a, l) ∈ ns) : lo ≤ hi ∧ hi ≤ W.heap.size := (h.new _ hm).1.2
theorem Lv.all {w W : World} {rs : List (Nat × Array Value × TypeId)} {ns : List (Nat × Nat × Option Addr × List Int)} (h : Lv w W rs ns) {lo hi : Nat} {a : Option Addr} {l : List Int} (hm : (lo, hi, a, l) ∈ ns) : NumsNew w.heap.size W.heap.size W a l :=
 (h.at hm).wide (h.new _ hm).1.1 (h.new _ hm).1.2.2
end
end Go.Proofs.YtioldepgoodipaaGreat
namespace Go.Proofs.YtioldepgoodipaaGreat
open Go.RowKit
set_option linter.unusedVariables false

def Solid (lo hi : Nat) (P : World → Prop) (W : World) : Prop := ∀ W' : World, W.heap.size ≤ W'.heap.size → (∀ k, lo ≤ k → k < hi → W'.heap[k]? = W.heap[k]?) → P W'
section
variable {lo hi lo' hi' B : Nat} {P P' : World → Prop} {W W' : World}
theorem Solid.here (h : Solid lo hi P W) : P W := h W (Nat.le_refl _) (fun _ _ _ => rfl)
theorem Solid.moved (h : Solid lo hi P W) (hs : W.heap.size ≤ W'.heap.size) (hk : ∀ k, lo ≤ k → k < hi → W'.heap[k]? = W.heap[k]?) : Solid lo hi P W' :=
 fun W2 h1 h2 => h W2 (Nat.le_trans hs h1) (fun k a b => (h2 k a b).trans (hk k a b))
theorem Solid.kept (h : Solid lo hi P W) (hb : Below W.heap.size W W') (hh : hi ≤ W.heap.size) : Solid lo hi P W' := h.moved hb.size (fun k _ b => hb.block k (Nat.lt_of_lt_of_le b hh))
theorem Solid.out (h : Solid lo hi P W) (ho : Out lo' hi' W W') (hh : hi ≤ W.heap.size) (hd : hi ≤ lo' ∨ hi' ≤ lo) : Solid lo hi P W' :=
 h.moved ho.size (fun k a b => ho.block k (Nat.lt_of_lt_of_le b hh) (by omega))
theorem Solid.and (h : Solid lo hi P W) (h' : Solid lo hi P' W) : Solid lo hi (fun w => P w ∧ P' w) W := fun W2 a b => ⟨h W2 a b, h' W2 a b⟩
end

theorem Out.widen {b lo hi : Nat} {w w' : World} (h : Out b (b + 1) w w') (h1 : lo ≤ b) (h2 : b < hi) : Out lo hi w w' :=
 ⟨h.os, h.tape, h.output, h.size, fun k hk h' => h.block k hk (by omega)⟩
def RsIn {α : Type} (c : α → List Value) (s : Nat) (w : World) (a : Option Addr) (l : List α) : Prop :=
 l = [] ∨ ∃ b o, a = some ⟨b, o, none⟩ ∧ b < w.heap.size ∧ ∀ (i : Nat) x, l[i]? = some x → ∀ (j : Nat) v, (c x)[j]? = some v → w.cell? ⟨b, o + i * s + j, none⟩ = some v
def RsNew {α : Type} (c : α → List Value) (s : Nat) (e : TypeId) (lo hi : Nat) (w : World) (a : Option Addr) (l : List α) : Prop :=
 l = [] ∨ ∃ b o row, a = some ⟨b, o, none⟩ ∧ lo ≤ b ∧ b < hi ∧ w.heap[b]? = some (.cells row e (0, 0)) ∧ o + l.length * s ≤ row.size ∧ ∀ (i : Nat) x, l[i]? = some x → ∀ (j : Nat) v, (c x)[j]? = some v → row[o + i * s + j]? = some v
section
variable {α : Type} {c : α → List Value} {s : Nat} {e : TypeId} {lo hi lo' hi' B : Nat} {w w' : World} {a : Option Addr} {l : List α}
theorem RsIn.kept (h : RsIn c s w a l) (hb : Below w.heap.size w w') : RsIn c s w' a l := by
 rcases h with h | ⟨b, o, rfl, hlt, hc⟩
 ·exact .inl h
 ·exact .inr ⟨b, o, rfl, Nat.lt_of_lt_of_le hlt hb.size, fun i x hx j v hv => (hb.cell (p := ⟨b, _, none⟩) hlt).trans (hc i x hx j v hv)⟩
theorem RsIn.below (h : RsIn c s w a l) (hb : Below B w w') (hB : w.heap.size ≤ B) : RsIn c s w' a l := h.kept (hb.mono hB)
theorem RsIn.at (h : RsIn c s w a l) (hl : 0 < l.length) : ∃ b o, a = some ⟨b, o, none⟩ ∧ b < w.heap.size ∧ ∀ (i : Nat) x, l[i]? = some x → ∀ (j : Nat) v, (c x)[j]? = some v → w.cell? ⟨b, o + i * s + j, none⟩ = some v := by
 rcases h with rfl | h
 ·simp at hl
 ·exact h
theorem RsIn.take (h : RsIn c s w a l) (n : Nat) : RsIn c s w a (l.take n) := by
 rcases h with rfl | ⟨b, o, rfl, hlt, hc⟩
 ·exact .inl (by simp)
 ·refine .inr ⟨b, o, rfl, hlt, fun i x hx j v hv => hc i x ?_ j v hv⟩
  rw [List.getElem?_take] at hx
  split at hx
  ·exact hx
  ·cases hx
theorem RsNew.nil (a : Option Addr) : RsNew c s e lo hi w a ([] : List α) := .inl rfl
theorem RsNew.ins (h : RsNew c s e lo hi w a l) : RsIn c s w a l := by
 rcases h with h | ⟨b, o, row, rfl, _, _, hg, _, hc⟩
 ·exact .inl h
 ·exact .inr ⟨b, o, rfl, (Array.getElem?_eq_some_iff.1 hg).1, fun i x hx j v hv => (cell_of_row w b _ row e (0, 0) hg).trans (hc i x hx j v hv)⟩
theorem RsNew.wide (h : RsNew c s e lo hi w a l) (h1 : lo' ≤ lo) (h2 : hi ≤ hi') : RsNew c s e lo' hi' w a l := by
 rcases h with h | ⟨b, o, row, rfl, h3, h4, k⟩
 ·exact .inl h
 ·exact .inr ⟨b, o, row, rfl, by omega, by omega, k⟩
theorem RsNew.solid (h : RsNew c s e lo hi w a l) : Solid lo hi (fun W => RsNew c s e lo hi W a l) w := by
 intro W' _ hk
 rcases h with h | ⟨b, o, row, rfl, h3, h4, hg, k⟩
 ·exact .inl h
 ·exact .inr ⟨b, o, row, rfl, h3, h4, (hk b h3 h4).trans hg, k⟩
theorem RsNew.kept (h : RsNew c s e lo hi w a l) (hb : Below w.heap.size w w') : RsNew c s e lo hi w' a l := by
 rcases h with h | ⟨b, o, row, rfl, h3, h4, hg, k⟩
 ·exact .inl h
 ·exact .inr ⟨b, o, row, rfl, h3, h4, (hb.block b (Array.getElem?_eq_some_iff.1 hg).1).trans hg, k⟩
theorem RsNew.out (h : RsNew c s e lo hi w a l) (ho : Out lo' hi' w w') (hd : hi ≤ lo' ∨ hi' ≤ lo) : RsNew c s e lo hi w' a l := by
 rcases h with h | ⟨b, o, row, rfl, h3, h4, hg, k⟩
 ·exact .inl h
 ·exact .inr ⟨b, o, row, rfl, h3, h4, (ho.block b (Array.getElem?_eq_some_iff.1 hg).1 (by omega)).trans hg, k⟩
end
theorem NumsNew.solid {lo hi : Nat} {w : World} {a : Option Addr} {l : List Int} (h : NumsNew lo hi w a l) : Solid lo hi (fun W => NumsNew lo hi W a l) w := by
 intro W' hs hk
 rcases h with h | ⟨b, o, rfl, h3, h4, hlt, hf, hc⟩
 ·exact .inl h
 ·exact .inr ⟨b, o, rfl, h3, h4, Nat.lt_of_lt_of_le hlt hs, fun j hj => (World.frozen?_of_block (w := w) (hk b h3 h4)).trans (hf j hj), fun i x hx => (World.cell?_of_block (w := w) (hk b h3 h4)).trans (hc i x hx)⟩

theorem flat_len {α : Type} (c : α → List Value) (s : Nat) (hs : ∀ x, (c x).length = s) (l : List α) : (l.flatMap c).length = l.length * s := by
 induction l with
 | nil => simp
 | cons x l ih => simp only [List.flatMap_cons, List.length_append, hs, ih, List.length_cons, Nat.succ_mul]; omega
theorem flat_at {α : Type} (c : α → List Value) (s : Nat) (hs : ∀ x, (c x).length = s) (l : List α) : ∀ (i : Nat) x, l[i]? = some x → ∀ (j : Nat) v, (c x)[j]? = some v → (l.flatMap c)[i * s + j]? = some v := by
 induction l with
 | nil => intro i x h; simp at h
 | cons y l ih =>
  intro i x h j v hv
  have hj : j < s := by rw [← hs x]; exact (List.getElem?_eq_some_iff.1 hv).1
  rcases i with _ | i
  ·simp at h
   subst h
   rw [List.flatMap_cons, List.getElem?_append_left (by rw [hs]; omega)]
   simpa using hv
  ·simp at h
   rw [List.flatMap_cons, List.getElem?_append_right (by rw [hs, Nat.succ_mul]; omega), hs]
   rw [show (i + 1) * s + j - s = i * s + j by rw [Nat.succ_mul]; omega]
   exact ih i x h j v hv
theorem flat_back {α : Type} (c : α → List Value) (s : Nat) (hs : ∀ x, (c x).length = s) (l : List α) : ∀ (k : Nat) v, (l.flatMap c)[k]? = some v → ∃ i j x, k = i * s + j ∧ l[i]? = some x ∧ (c x)[j]? = some v := by
 induction l with
 | nil => intro k v h; simp at h
 | cons y l ih =>
  intro k v h
  rw [List.flatMap_cons] at h
  rcases Nat.lt_or_ge k s with hk | hk
  ·rw [List.getElem?_append_left (by rw [hs]; omega)] at h
   exact ⟨0, k, y, by omega, by simp, h⟩
  ·rw [List.getElem?_append_right (by rw [hs]; omega), hs] at h
   obtain ⟨i, j, x, h1, h2, h3⟩ := ih _ _ h
   exact ⟨i + 1, j, x, by rw [Nat.succ_mul]; omega, by simpa using h2, h3⟩
theorem RsNew.of_owns {α : Type} {c : α → List Value} {s : Nat} {e : TypeId} (hs : ∀ x, (c x).length = s) {w : World} {base : Nat} {v : Value} {l : List α} (h : w.ownsRow base e s v l.length (l.flatMap c)) :
  ∃ a cap, v = .slice a l.length cap ∧ l.length ≤ cap ∧ RsNew c s e base w.heap.size w a l := by
 have h' := h
 rcases h.2 with ⟨rfl, hn⟩ | ⟨g, cap, cur, rfl, hb, hh, hcap, hm, hsz, ht⟩
 ·have : l = [] := List.eq_nil_of_length_eq_zero hn
  subst this
  exact ⟨none, 0, rfl, Nat.le_refl _, .inl rfl⟩
 ·have hlt := (World.ownsRow.lt h' g rfl).2
  refine ⟨some ⟨g, 0, none⟩, cap, rfl, hcap, .inr ⟨g, 0, cur, rfl, hb, hlt, hh, ?_, fun i x hx j v hv => ?_⟩⟩
  ·rw [hsz, Nat.zero_add]
   exact Nat.mul_le_mul_right s hcap
  ·have h1 := flat_at c s hs l i x hx j v hv
   rw [← ht, List.getElem?_take] at h1
   split at h1
   ·rw [Nat.zero_add, ← Array.getElem?_toList]
    exact h1
   ·cases h1
theorem RsIn.news {α : Type} {c : α → List Value} {s : Nat} (hs : ∀ x, (c x).length = s) {w : World} {b o : Nat} {l : List α} (hc : ∀ (i : Nat) x, l[i]? = some x → ∀ (j : Nat) v, (c x)[j]? = some v → w.cell? ⟨b, o + i * s + j, none⟩ = some v) :
  ∀ j u, (l.flatMap c)[j]? = some u → w.cell? ((⟨b, o, none⟩ : Addr).add j) = some u := by
 intro k u h
 have e : (⟨b, o, none⟩ : Addr).add k = ⟨b, o + k, none⟩ := by unfold Addr.add; split <;> simp_all
 rw [e]
 obtain ⟨i, j, x, rfl, h2, h3⟩ := flat_back c s hs l k u h
 rw [← Nat.add_assoc]
 exact hc i x h2 j u h3

/-! A row of cells, stored into. -/
theorem setAll_size : ∀ (vs : List Value) (cs : Array Value) (o : Nat), (setAll cs o vs).size = cs.size
 | [], cs, o => rfl
 | v :: r, cs, o => (setAll_size r _ (o + 1)).trans (by simp)
theorem setAll_off : ∀ (vs : List Value) (cs : Array Value) (o j : Nat), (j < o ∨ o + vs.length ≤ j) → (setAll cs o vs)[j]? = cs[j]?
 | [], cs, o, j, _ => rfl
 | v :: r, cs, o, j, h => by
  simp only [List.length_cons] at h
  refine (setAll_off r _ (o + 1) j (by omega)).trans ?_
  rw [Array.getElem?_setIfInBounds]
  rw [if_neg (by omega)]
theorem setAll_at : ∀ (vs : List Value) (cs : Array Value) (o j : Nat) (v : Value), o + vs.length ≤ cs.size → vs[j]? = some v → (setAll cs o vs)[o + j]? = some v
 | [], cs, o, j, v, _, h => by simp at h
 | u :: r, cs, o, j, v, hs, h => by
  simp only [List.length_cons] at hs
  rcases j with _ | j
  ·simp at h
   subst h
   refine (setAll_off r _ (o + 1) o (by omega)).trans ?_
   rw [Array.getElem?_setIfInBounds]
   rw [if_pos rfl, if_pos (by omega)]
  ·have := setAll_at r (cs.setIfInBounds o u) (o + 1) j v (by simp; omega) (by simpa using h)
   rw [show o + (j + 1) = o + 1 + j by omega]
   exact this

section
variable {P : Program} {ops : Array Oper} {rest : List Oper} {o : Oper} {a : Act} {w : World} {Q : Exit → Act → World → Prop}
theorem wpList_load_cells (hgd : Region.wanted o (yielded ops a.tmps) = true) (ty : TypeId) (x : Operand) (ho : o.op = .load ty x) (g k : Nat) (hx : a.eval x = .pointer (some ⟨g, k, none⟩))
  (cs : List Value) (hcs : ∀ (j : Nat) v, cs[j]? = some v → w.cell? ⟨g, k + j, none⟩ = some v) (d : TypeDesc) (hu : P.underlying ty = some d) (hd : d.isRow = true) (hi : (P.info? ty).map (·.size) = some cs.length)
  (h : wpList P ops Q rest (a.put o.dst (.agg cs.toArray)) w) : wpList P ops Q (o :: rest) a w :=
 BigFrame.wpList_want hgd fun _ hK => wp_load_mid ty x ho g k hx cs d hcs hu hd hi (hK _ _ h)
end

structure Lg (w W : World) (rs : List (Nat × Array Value × TypeId)) (ns : List (Nat × Nat × (World → Prop))) : Prop where
 below : Below w.heap.size w W
 row : ∀ r ∈ rs, w.heap.size ≤ r.1 ∧ W.heap[r.1]? = some (.cells r.2.1 r.2.2 (0, 0))
 new : ∀ n ∈ ns, (w.heap.size ≤ n.1 ∧ n.1 ≤ n.2.1 ∧ n.2.1 ≤ W.heap.size) ∧ Solid n.1 n.2.1 n.2.2 W
section
variable {w W W' : World} {rs rs' : List (Nat × Array Value × TypeId)} {ns ns' : List (Nat × Nat × (World → Prop))}
theorem Lg.first (w : World) : Lg w w [] [] := ⟨Below.refl _ _, fun r hr => (by cases hr), fun n hn => (by cases hn)⟩
theorem Lg.kept (h : Lg w W rs ns) (hb : Below W.heap.size W W') : Lg w W' rs ns :=
 ⟨h.below.trans (hb.mono h.below.size), fun r hr => ⟨(h.row r hr).1, (hb.block _ (Array.getElem?_eq_some_iff.1 (h.row r hr).2).1).trans (h.row r hr).2⟩, fun n hn => ⟨⟨(h.new n hn).1.1, (h.new n hn).1.2.1, Nat.le_trans (h.new n hn).1.2.2 hb.size⟩, (h.new n hn).2.kept hb (h.new n hn).1.2.2⟩⟩
theorem Lg.addRow (h : Lg w W rs ns) {g : Nat} {cs : Array Value} {T : TypeId} (hg : W.heap[g]? = some (.cells cs T (0, 0))) (hle : w.heap.size ≤ g) : Lg w W ((g, cs, T) :: rs) ns :=
 ⟨h.below, fun r hr => by
  rcases List.mem_cons.1 hr with rfl | hr
  ·exact ⟨hle, hg⟩
  ·exact h.row r hr, h.new⟩
theorem Lg.box (h : Lg w W rs ns) {R : Nat} {cs : Array Value} {T : TypeId} (hR : W.heap.size = R) (hg : W'.heap[R]? = some (.cells cs T (0, 0))) (hb : Below W.heap.size W W') : Lg w W' ((R, cs, T) :: rs) ns :=
 (h.kept hb).addRow hg (hR ▸ h.below.size)
theorem Lg.addNew (h : Lg w W rs ns) {lo hi : Nat} {P : World → Prop} (hn : Solid lo hi P W) (hle : w.heap.size ≤ lo) (hlh : lo ≤ hi) (hhi : hi ≤ W.heap.size) : Lg w W rs ((lo, hi, P) :: ns) :=
 ⟨h.below, h.row, fun n h' => by
  rcases List.mem_cons.1 h' with rfl | h'
  ·exact ⟨⟨hle, hlh, hhi⟩, hn⟩
  ·exact h.new n h'⟩
theorem Lg.less (h : Lg w W rs ns) (h1 : ∀ r ∈ rs', r ∈ rs) (h2 : ∀ n ∈ ns', n ∈ ns) : Lg w W rs' ns' := ⟨h.below, fun r hr => h.row r (h1 r hr), fun n hn => h.new n (h2 n hn)⟩
theorem Lg.get (h : Lg w W rs ns) {g : Nat} {cs : Array Value} {T : TypeId} (hm : (g, cs, T) ∈ rs) : W.heap[g]? = some (.cells cs T (0, 0)) := (h.row _ hm).2
theorem Lg.lt (h : Lg w W rs ns) {g : Nat} {cs : Array Value} {T : TypeId} (hm : (g, cs, T) ∈ rs) : g < W.heap.size := (Array.getElem?_eq_some_iff.1 (h.row _ hm).2).1
theorem Lg.ge (h : Lg w W rs ns) {g : Nat} {cs : Array Value} {T : TypeId} (hm : (g, cs, T) ∈ rs) : w.heap.size ≤ g := (h.row _ hm).1
theorem Lg.at (h : Lg w W rs ns) {lo hi : Nat} {P : World → Prop} (hm : (lo, hi, P) ∈ ns) : P W := (h.new _ hm).2.here
theorem Lg.solid (h : Lg w W rs ns) {lo hi : Nat} {P : World → Prop} (hm : (lo, hi, P) ∈ ns) : Solid lo hi P W := (h.new _ hm).2
theorem Lg.lo (h : Lg w W rs ns) {lo hi : Nat} {P : World → Prop} (hm : (lo, hi, P) ∈ ns) : w.heap.size ≤ lo := (h.new _ hm).1.1
theorem Lg.out {lo hi : Nat} (h : Lg w W rs ns) (ho : Out lo hi W W') (hlo : w.heap.size ≤ lo) (hr : ∀ r ∈ rs, r.1 < lo ∨ hi ≤ r.1) (hn : ∀ n ∈ ns, n.2.1 ≤ lo ∨ hi ≤ n.1) : Lg w W' rs ns :=
 ⟨ho.below h.below hlo h.below.size, fun r h' => ⟨(h.row r h').1, (ho.block _ (Array.getElem?_eq_some_iff.1 (h.row r h').2).1 (hr r h')).trans (h.row r h').2⟩, fun n h' => ⟨⟨(h.new n h').1.1, (h.new n h').1.2.1, Nat.le_trans (h.new n h').1.2.2 ho.size⟩, (h.new n h').2.out ho (h.new n h').1.2.2 (hn n h')⟩⟩
theorem Lg.put (h : Lg w W rs ns) (i : Nat) {g : Nat} {old new : Array Value} {T : TypeId} (hm : rs[i]? = some (g, old, T)) (hg : W'.heap[g]? = some (.cells new T (0, 0))) (ho : Out g (g + 1) W W')
  (h1 : ∀ r ∈ rs.eraseIdx i, r.1 ≠ g) (h2 : ∀ n ∈ ns, n.2.1 ≤ g ∨ g + 1 ≤ n.1) (hrs : rs' = rs.set i (g, new, T)) : Lg w W' rs' ns := by
 have hin := h.row _ (List.mem_of_getElem? hm)
 refine ⟨ho.below h.below hin.1 h.below.size, fun r hr => ?_, fun n hn => ⟨⟨(h.new n hn).1.1, (h.new n hn).1.2.1, Nat.le_trans (h.new n hn).1.2.2 ho.size⟩, (h.new n hn).2.out ho (h.new n hn).1.2.2 (h2 n hn)⟩⟩
 subst hrs
 obtain ⟨j, hj⟩ := List.getElem?_of_mem hr
 rw [List.getElem?_set] at hj
 split at hj
 ·rename_i hij
  split at hj
  ·cases hj
   exact ⟨hin.1, hg⟩
  ·cases hj
 ·rename_i hij
  have hr' : r ∈ rs := List.mem_of_getElem? hj
  have hne : r.1 ≠ g := h1 r (by
   rw [List.mem_eraseIdx_iff_getElem?]
   exact ⟨j, fun e => hij e.symm, hj⟩)
  refine ⟨(h.row r hr').1, ?_⟩
  exact (ho.block _ (Array.getElem?_eq_some_iff.1 (h.row r hr').2).1 (by omega)).trans (h.row r hr').2
theorem Lg.mark (h : Lg w W rs ns) (i : Nat) {lo hi : Nat} {P P' : World → Prop} (hm : ns[i]? = some (lo, hi, P)) (ho : Out lo hi W W') (hn : Solid lo hi P' W')
  (hr : ∀ r ∈ rs, r.1 < lo ∨ hi ≤ r.1) (h2 : ∀ n ∈ ns.eraseIdx i, n.2.1 ≤ lo ∨ hi ≤ n.1) (hns : ns' = ns.set i (lo, hi, P')) : Lg w W' rs ns' := by
 have hin := h.new _ (List.mem_of_getElem? hm)
 refine ⟨ho.below h.below hin.1.1 h.below.size, fun r h' => ⟨(h.row r h').1, (ho.block _ (Array.getElem?_eq_some_iff.1 (h.row r h').2).1 (hr r h')).trans (h.row r h').2⟩, fun n hn' => ?_⟩
 subst hns
 obtain ⟨j, hj⟩ := List.getElem?_of_mem hn'
 rw [List.getElem?_set] at hj
 split at hj
 ·split at hj
  ·cases hj
   exact ⟨⟨hin.1.1, hin.1.2.1, Nat.le_trans hin.1.2.2 ho.size⟩, hn⟩
  ·cases hj
 ·rename_i hij
  have hn2 : n ∈ ns := List.mem_of_getElem? hj
  have hne := h2 n (by
   rw [List.mem_eraseIdx_iff_getElem?]
   exact ⟨j, fun e => hij e.symm, hj⟩)
  exact ⟨⟨(h.new n hn2).1.1, (h.new n hn2).1.2.1, Nat.le_trans (h.new n hn2).1.2.2 ho.size⟩, (h.new n hn2).2.out ho (h.new n hn2).1.2.2 hne⟩
theorem Lg.made (h : Lg w W rs ns) {lo hi : Nat} {P : World → Prop} (hlo : W.heap.size = lo) (hhi : W'.heap.size = hi) (hb : Below W.heap.size W W') (hn : Solid lo hi P W') : Lg w W' rs ((lo, hi, P) :: ns) := by
 subst hlo hhi
 exact (h.kept hb).addNew hn h.below.size hb.size (Nat.le_refl _)
theorem Lg.hi (h : Lg w W rs ns) {lo hi : Nat} {P : World → Prop} (hm : (lo, hi, P) ∈ ns) : lo ≤ hi ∧ hi ≤ W.heap.size := (h.new _ hm).1.2
end
end Go.Proofs.YtioldepgoodipaaGreat
namespace Go.Proofs.YtioldepgoodipaaGreat
open Go.RowKit
set_option linter.unusedVariables false

structure Se where
 src : Int
 pgn : Int
 sq : Int
 nx : Int
 sz : Int
 dt : ByteArray
 ag : Int
def seL (x : Se) : List Value := [.int .i64 x.src, .int .i64 x.pgn, .int .i64 x.sq, .int .i64 x.nx, .int .i64 x.sz, .string x.dt, .int .i64 x.ag]
theorem seL_len (x : Se) : (seL x).length = 7 := rfl
theorem seL_one (x : Se) : ∀ u ∈ seL x, u.oneCell' = true := by
 intro u hu
 simp [seL] at hu
 rcases hu with rfl | rfl | rfl | rfl | rfl | rfl | rfl <;> rfl
def SeOk (x : Se) : Prop := (-9223372036854775808 ≤ x.src ∧ x.src ≤ 9223372036854775807) ∧ (-9223372036854775808 ≤ x.pgn ∧ x.pgn ≤ 9223372036854775807) ∧ (-9223372036854775808 ≤ x.sq ∧ x.sq ≤ 9223372036854775807) ∧ (-9223372036854775808 ≤ x.nx ∧ x.nx ≤ 9223372036854775807) ∧ (-9223372036854775808 ≤ x.sz ∧ x.sz ≤ 9223372036854775807) ∧ x.dt.size ≤ maxLen ∧ (-9223372036854775808 ≤ x.ag ∧ x.ag ≤ 9223372036854775807)
def seB (x : Se) : Bool := inB 0 255 x.src && (inB 0 131071 x.pgn && (inB 0 7 x.sq && (inB 1 31 x.nx && (inB 7 223 x.sz && (inB 0 750 x.ag && (((x.dt.size : Int) == 6 + 7 * (x.nx - 1)) && decide ((x.dt.size : Int) < x.sz)))))))
def lessB (x : Se) (s p : Int) : Bool := decide (x.src < s) || (x.src == s && decide (x.pgn < p))
def cmpI (a b : Int) : Int := if a < b then -1 else if b < a then 1 else 0
def cmpS (x y : Se) : Int := if cmpI x.src y.src = 0 then cmpI x.pgn y.pgn else cmpI x.src y.src
theorem cmpS_neg (x y : Se) : decide (0 ≤ cmpS x y) = !(lessB x y.src y.pgn) := by
 unfold cmpS cmpI lessB
 rcases Int.lt_trichotomy x.src y.src with h | h | h
 ·simp [h]
 ·simp [h]
  rcases Int.lt_trichotomy x.pgn y.pgn with h' | h' | h'
  ·simp [h']
  ·simp [h']
  ·simp [h', show ¬ x.pgn < y.pgn by omega]
 ·simp [h, show ¬ x.src < y.src by omega, show ¬ x.src = y.src by omega]

set_option maxRecDepth 100000 in
theorem l06Less_any (x : Se) (s p : Int) (w : World) :
  Calls Tryz.prog 155 #[.agg (seL x).toArray, .int .i64 s, .int .i64 p] w fun e w' => e = .returned (.bool (lessB x s p)) ∧ Below w.heap.size w w' := by
 obtain ⟨src, pgn, sq, nx, sz, dt, ag⟩ := x
 unfold seL
 dsimp only
 by_cases h1 : src < s
 ·have d1 : decide (src < s) = true := decide_eq_true h1
  go_enter Tryz.func155, Tryz.ntmps155
  go_wp2
  go_ret
  exact ⟨by simp [lessB, h1], (Below.refl _ _).alloc (Nat.le_refl _) _⟩
 have d1 : decide (src < s) = false := decide_eq_false h1
 by_cases h2 : src = s
 ·have d2 : (src == s) = true := by simpa using h2
  clear h1
  go_enter Tryz.func155, Tryz.ntmps155
  go_wp2
  go_ret
  exact ⟨by simp [lessB, h2], (Below.refl _ _).alloc (Nat.le_refl _) _⟩
 ·have d2 : (src == s) = false := by simpa using h2
  go_enter Tryz.func155, Tryz.ntmps155
  go_wp2
  go_ret
  exact ⟨by simp [lessB, h1, h2], (Below.refl _ _).alloc (Nat.le_refl _) _⟩
theorem isNaNc_any (a : Int) (w : World) :
  Calls Tryz.prog 242 #[.int .i64 a] w fun e w' => e = .returned (.bool false) ∧ w = w' := by
 have d : (a != a) = false := by simp
 go_enter Tryz.func242, Tryz.ntmps242
 go_wp2
 go_ret
 exact ⟨rfl, rfl⟩
theorem cmpCompare_any (a b : Int) (w : World) :
  Calls Tryz.prog 223 #[.int .i64 a, .int .i64 b] w fun e w' => e = .returned (.int .i64 (cmpI a b)) ∧ w = w' := by
 by_cases h1 : a < b
 ·have d1 : decide (a < b) = true := decide_eq_true h1
  have HV := Lib.hid (show cmpI a b = -1 by simp [cmpI, h1])
  go_enter Tryz.func223, Tryz.ntmps223
  go_wp2_with (go_at_call 242; refine (isNaNc_any _ _).mono ?_; rintro e w' ⟨rfl, rfl⟩)
  go_ret
  exact ⟨by rw [HV.out]; rfl, rfl⟩
 have d1 : decide (a < b) = false := decide_eq_false h1
 by_cases h2 : b < a
 ·have d2 : decide (b < a) = true := decide_eq_true h2
  have HV := Lib.hid (show cmpI a b = 1 by simp [cmpI, h1, h2])
  go_enter Tryz.func223, Tryz.ntmps223
  go_wp2_with (go_at_call 242; refine (isNaNc_any _ _).mono ?_; rintro e w' ⟨rfl, rfl⟩)
  go_ret
  exact ⟨by rw [HV.out]; rfl, rfl⟩
 ·have d2 : decide (b < a) = false := decide_eq_false h2
  have HV := Lib.hid (show cmpI a b = 0 by simp [cmpI, h1, h2])
  go_enter Tryz.func223, Tryz.ntmps223
  go_wp2_with (go_at_call 242; refine (isNaNc_any _ _).mono ?_; rintro e w' ⟨rfl, rfl⟩)
  go_ret
  exact ⟨by rw [HV.out]; rfl, rfl⟩
theorem cmpOr_two (p q V : Int) (hV : (if p = 0 then q else p) = V) (b : Nat) (w : World) (h0 : w.cell? ⟨b, 0, none⟩ = some (.int .i64 p)) (h1 : w.cell? ⟨b, 1, none⟩ = some (.int .i64 q)) :
  Calls Tryz.prog 222 #[.slice (some ⟨b, 0, none⟩) 2 2] w fun e w' => e = .returned (.int .i64 V) ∧ w = w' := by
 subst hV
 by_cases hp : p = 0
 ·have d1 : (p != 0) = false := by simpa using hp
  by_cases hq : q = 0
  ·have d2 : (q != 0) = false := by simpa using hq
   go_enter Tryz.func222, Tryz.ntmps222
   go_wp2
   refine wp_loop_rounds 3 ?_
   rw [rounds_succ]; go_wp2
   rw [rounds_succ]; go_wp2
   rw [rounds_succ]; go_wp2
   go_ret
   exact ⟨by simp, rfl⟩
  ·have d2 : (q != 0) = true := by simpa using hq
   go_enter Tryz.func222, Tryz.ntmps222
   go_wp2
   refine wp_loop_rounds 3 ?_
   rw [rounds_succ]; go_wp2
   rw [rounds_succ]; go_wp2
   go_ret
   exact ⟨by simp, rfl⟩
 ·have d1 : (p != 0) = true := by simpa using hp
  go_enter Tryz.func222, Tryz.ntmps222
  go_wp2
  refine wp_loop_rounds 3 ?_
  rw [rounds_succ]; go_wp2
  go_ret
  exact ⟨by simp, rfl⟩
theorem new_two (w : World) (p q : Value) (T : TypeId) :
  (w.alloc (.cells #[p, q] T)).drew.cell? ⟨w.heap.size, 0, none⟩ = some p ∧ (w.alloc (.cells #[p, q] T)).drew.cell? ⟨w.heap.size, 1, none⟩ = some q :=
 ⟨cell_of_row _ _ 0 _ _ (0, 0) (heap_alloc_new w _), cell_of_row _ _ 1 _ _ (0, 0) (heap_alloc_new w _)⟩
section
variable {U W W' : World} {p0 p1 p2 p3 : Addr} {v0 v1 v2 v3 : Value}
theorem quad_first (h0 : U.cell? p0 = some v0) (h1 : U.cell? p1 = some v1) (h2 : U.cell? p2 = some v2) (h3 : U.cell? p3 = some v3) : (U.drew.cell? p0 = some v0 ∧ U.drew.cell? p1 = some v1 ∧ U.drew.cell? p2 = some v2 ∧ U.drew.cell? p3 = some v3) ∧ Below U.heap.size U U.drew :=
 ⟨⟨h0, h1, h2, h3⟩, (Below.refl _ _).drew⟩
theorem quad_call (l0 : p0.block < U.heap.size) (l1 : p1.block < U.heap.size) (l2 : p2.block < U.heap.size) (l3 : p3.block < U.heap.size) (h : (W.cell? p0 = some v0 ∧ W.cell? p1 = some v1 ∧ W.cell? p2 = some v2 ∧ W.cell? p3 = some v3) ∧ Below U.heap.size U W) (hb : Below W.heap.size W W') :
  (W'.cell? p0 = some v0 ∧ W'.cell? p1 = some v1 ∧ W'.cell? p2 = some v2 ∧ W'.cell? p3 = some v3) ∧ Below U.heap.size U W' :=
 ⟨⟨(hb.cell (Nat.lt_of_lt_of_le l0 h.2.size)).trans h.1.1, (hb.cell (Nat.lt_of_lt_of_le l1 h.2.size)).trans h.1.2.1, (hb.cell (Nat.lt_of_lt_of_le l2 h.2.size)).trans h.1.2.2.1, (hb.cell (Nat.lt_of_lt_of_le l3 h.2.size)).trans h.1.2.2.2⟩, h.2.trans (hb.mono h.2.size)⟩
theorem quad_alloc (l0 : p0.block < U.heap.size) (l1 : p1.block < U.heap.size) (l2 : p2.block < U.heap.size) (l3 : p3.block < U.heap.size) (h : (W.cell? p0 = some v0 ∧ W.cell? p1 = some v1 ∧ W.cell? p2 = some v2 ∧ W.cell? p3 = some v3) ∧ Below U.heap.size U W) (o : Obj) :
  ((W.alloc o).cell? p0 = some v0 ∧ (W.alloc o).cell? p1 = some v1 ∧ (W.alloc o).cell? p2 = some v2 ∧ (W.alloc o).cell? p3 = some v3) ∧ Below U.heap.size U (W.alloc o) :=
 quad_call l0 l1 l2 l3 h ((Below.refl _ _).alloc (Nat.le_refl _) o)
end
set_option maxRecDepth 100000 in
set_option maxHeartbeats 2000000 in
theorem bySrc_any (x y : Se) (w : World) :
  Calls Tryz.prog 191 #[.agg (seL x).toArray, .agg (seL y).toArray] w fun e w' => e = .returned (.int .i64 (cmpS x y)) ∧ Below w.heap.size w w' := by
 obtain ⟨src, pgn, sq, nx, sz, dt, ag⟩ := x
 obtain ⟨src', pgn', sq', nx', sz', dt', ag'⟩ := y
 unfold seL cmpS
 dsimp only
 generalize hP : cmpI src src' = p
 generalize hQ : cmpI pgn pgn' = q
 have HP := Lib.hid hP
 have HQ := Lib.hid hQ
 obtain ⟨V, hV⟩ : ∃ V, (if p = 0 then q else p) = V := ⟨_, rfl⟩
 rw [hV]
 have HV := Lib.hid hV
 clear hP hQ hV
 go_enter Tryz.func191, Tryz.ntmps191
 go_wp2_with fail
 have bU : Below w.heap.size w ((w.alloc (.cells #[.int .i64 src, .int .i64 pgn, .int .i64 sq, .int .i64 nx, .int .i64 sz, .string dt, .int .i64 ag] 159)).alloc (.cells #[.int .i64 src', .int .i64 pgn', .int .i64 sq', .int .i64 nx', .int .i64 sz', .string dt', .int .i64 ag'] 159)) := ((Below.refl _ _).alloc (Nat.le_refl _) _).alloc (by simp) _
 have hA := (heap_alloc_old (w.alloc (.cells #[.int .i64 src, .int .i64 pgn, .int .i64 sq, .int .i64 nx, .int .i64 sz, .string dt, .int .i64 ag] 159)) (.cells #[.int .i64 src', .int .i64 pgn', .int .i64 sq', .int .i64 nx', .int .i64 sz', .string dt', .int .i64 ag'] 159) (r := w.heap.size) (by simp)).trans (heap_alloc_new w _)
 have hB := heap_alloc_new (w.alloc (.cells #[.int .i64 src, .int .i64 pgn, .int .i64 sq, .int .i64 nx, .int .i64 sz, .string dt, .int .i64 ag] 159)) (.cells #[.int .i64 src', .int .i64 pgn', .int .i64 sq', .int .i64 nx', .int .i64 sz', .string dt', .int .i64 ag'] 159)
 rw [show (w.alloc (.cells #[.int .i64 src, .int .i64 pgn, .int .i64 sq, .int .i64 nx, .int .i64 sz, .string dt, .int .i64 ag] 159)).heap.size = w.heap.size + 1 by simp] at hB
 generalize (w.alloc (.cells #[.int .i64 src, .int .i64 pgn, .int .i64 sq, .int .i64 nx, .int .i64 sz, .string dt, .int .i64 ag] 159)).alloc (.cells #[.int .i64 src', .int .i64 pgn', .int .i64 sq', .int .i64 nx', .int .i64 sz', .string dt', .int .i64 ag'] 159) = U at *
 have A0 : U.cell? ⟨w.heap.size, 0, none⟩ = some (.int .i64 src) := cell_of_row _ _ 0 _ _ (0, 0) hA
 have A1 : U.cell? ⟨w.heap.size, 1, none⟩ = some (.int .i64 pgn) := cell_of_row _ _ 1 _ _ (0, 0) hA
 have B0 : U.cell? ⟨w.heap.size + 1, 0, none⟩ = some (.int .i64 src') := cell_of_row _ _ 0 _ _ (0, 0) hB
 have B1 : U.cell? ⟨w.heap.size + 1, 1, none⟩ = some (.int .i64 pgn') := cell_of_row _ _ 1 _ _ (0, 0) hB
 have lA : w.heap.size < U.heap.size := (Array.getElem?_eq_some_iff.1 hA).1
 have lB : w.heap.size + 1 < U.heap.size := (Array.getElem?_eq_some_iff.1 hB).1
 go_region_held3 (fun W => (W.cell? ⟨w.heap.size, 0, none⟩ = some (.int .i64 src) ∧ W.cell? ⟨w.heap.size, 1, none⟩ = some (.int .i64 pgn) ∧ W.cell? ⟨w.heap.size + 1, 0, none⟩ = some (.int .i64 src') ∧ W.cell? ⟨w.heap.size + 1, 1, none⟩ = some (.int .i64 pgn')) ∧ Below U.heap.size U W)
  (first | assumption | exact quad_first A0 A1 B0 B1 | exact quad_alloc lA lA lB lB (by assumption) _ | exact quad_call lA lA lB lB (by assumption) (by assumption))
  (first
   | (go_at_call 223; refine (cmpCompare_any _ _ _).mono ?_; (first | rw [HP.out] | rw [HQ.out]); rintro e w' ⟨rfl, rfl⟩)
   | (go_at_call 222; refine (cmpOr_two p q V HV.out _ _ (new_two _ _ _ _).1 (new_two _ _ _ _).2).mono ?_; rintro e w' ⟨rfl, rfl⟩))
 all_goals rename_i hH
 all_goals go_wp2
 all_goals go_ret
 all_goals exact ⟨rfl, bU.trans (hH.2.mono (Nat.le_of_lt lA))⟩
set_option maxRecDepth 100000 in
set_option maxHeartbeats 4000000 in
theorem sessionRight_any (x : Se) (w : World) (hx : SeOk x) :
  Calls Tryz.prog 190 #[.agg (seL x).toArray] w fun e w' => e = .returned (.bool (seB x)) ∧ Below w.heap.size w w' := by
 obtain ⟨src, pgn, sq, nx, sz, dt, ag⟩ := x
 obtain ⟨k0, k1, k2, k3, k4, k5, k6⟩ := hx
 obtain ⟨V, hV⟩ : ∃ V, seB ⟨src, pgn, sq, nx, sz, dt, ag⟩ = V := ⟨_, rfl⟩
 rw [hV]
 unfold seB at hV
 unfold seL
 dsimp only at *
 unfold maxLen at k5
 rcases c0 : inB 0 255 src
 ·have HV := Lib.hid (show V = false by rw [← hV]; simp [c0])
  clear hV
  go_enter Tryz.func190, Tryz.ntmps190
  go_wp2_with (go_at_call 131; refine (from0_any _ _ _).mono ?_; (first | rw [c0]); rintro e w' ⟨rfl, rfl⟩)
  go_ret
  exact ⟨by rw [HV.out]; rfl, (Below.refl _ _).alloc (Nat.le_refl _) _⟩
 rcases c1 : inB 0 131071 pgn
 ·have HV := Lib.hid (show V = false by rw [← hV]; simp [c0, c1])
  clear hV
  go_enter Tryz.func190, Tryz.ntmps190
  go_wp2_with (go_at_call 131; refine (from0_any _ _ _).mono ?_; (first | rw [c0] | rw [c1]); rintro e w' ⟨rfl, rfl⟩)
  go_ret
  exact ⟨by rw [HV.out]; rfl, (Below.refl _ _).alloc (Nat.le_refl _) _⟩
 rcases c2 : inB 0 7 sq
 ·have HV := Lib.hid (show V = false by rw [← hV]; simp [c0, c1, c2])
  clear hV
  go_enter Tryz.func190, Tryz.ntmps190
  go_wp2_with (go_at_call 131; refine (from0_any _ _ _).mono ?_; (first | rw [c0] | rw [c1] | rw [c2]); rintro e w' ⟨rfl, rfl⟩)
  go_ret
  exact ⟨by rw [HV.out]; rfl, (Below.refl _ _).alloc (Nat.le_refl _) _⟩
 rcases c3 : inB 0 750 ag
 ·have HV := Lib.hid (show V = false by rw [← hV]; simp [c0, c1, c2, c3])
  clear hV
  go_enter Tryz.func190, Tryz.ntmps190
  go_wp2_with (go_at_call 131; refine (from0_any _ _ _).mono ?_; (first | rw [c0] | rw [c1] | rw [c2] | rw [c3]); rintro e w' ⟨rfl, rfl⟩)
  go_ret
  exact ⟨by rw [HV.out]; rfl, (Below.refl _ _).alloc (Nat.le_refl _) _⟩
 by_cases h0 : sz ≤ 6
 ·have b0 : decide (sz ≤ 6) = true := decide_eq_true h0
  have HV := Lib.hid (show V = false by rw [← hV]; simp [inB_no (a := 7) (b := 223) (n := sz) (by omega)])
  clear hV
  go_enter Tryz.func190, Tryz.ntmps190
  go_wp2_with (go_at_call 131; refine (from0_any _ _ _).mono ?_; (first | rw [c0] | rw [c1] | rw [c2] | rw [c3]); rintro e w' ⟨rfl, rfl⟩)
  go_ret
  exact ⟨by rw [HV.out]; rfl, (Below.refl _ _).alloc (Nat.le_refl _) _⟩
 have b0 : decide (sz ≤ 6) = false := decide_eq_false h0
 by_cases h1 : 223 < sz
 ·have b1 : decide (223 < sz) = true := decide_eq_true h1
  have HV := Lib.hid (show V = false by rw [← hV]; simp [inB_no (a := 7) (b := 223) (n := sz) (by omega)])
  clear hV
  go_enter Tryz.func190, Tryz.ntmps190
  go_wp2_with (go_at_call 131; refine (from0_any _ _ _).mono ?_; (first | rw [c0] | rw [c1] | rw [c2] | rw [c3]); rintro e w' ⟨rfl, rfl⟩)
  go_ret
  exact ⟨by rw [HV.out]; rfl, (Below.refl _ _).alloc (Nat.le_refl _) _⟩
 have b1 : decide (223 < sz) = false := decide_eq_false h1
 by_cases h2 : nx < 1
 ·have b2 : decide (nx < 1) = true := decide_eq_true h2
  have HV := Lib.hid (show V = false by rw [← hV]; simp [inB_no (a := 1) (b := 31) (n := nx) (by omega)])
  clear hV
  go_enter Tryz.func190, Tryz.ntmps190
  go_wp2_with (go_at_call 131; refine (from0_any _ _ _).mono ?_; (first | rw [c0] | rw [c1] | rw [c2] | rw [c3]); rintro e w' ⟨rfl, rfl⟩)
  go_ret
  exact ⟨by rw [HV.out]; rfl, (Below.refl _ _).alloc (Nat.le_refl _) _⟩
 have b2 : decide (nx < 1) = false := decide_eq_false h2
 by_cases h3 : 31 < nx
 ·have b3 : decide (31 < nx) = true := decide_eq_true h3
  have HV := Lib.hid (show V = false by rw [← hV]; simp [inB_no (a := 1) (b := 31) (n := nx) (by omega)])
  clear hV
  go_enter Tryz.func190, Tryz.ntmps190
  go_wp2_with (go_at_call 131; refine (from0_any _ _ _).mono ?_; (first | rw [c0] | rw [c1] | rw [c2] | rw [c3]); rintro e w' ⟨rfl, rfl⟩)
  go_ret
  exact ⟨by rw [HV.out]; rfl, (Below.refl _ _).alloc (Nat.le_refl _) _⟩
 have b3 : decide (31 < nx) = false := decide_eq_false h3
 have y0 : inB 7 223 sz = true := inB_yes (by omega) (by omega)
 have y1 : inB 1 31 nx = true := inB_yes (by omega) (by omega)
 obtain ⟨q1, e1⟩ : ∃ q, nx - 1 = q := ⟨_, rfl⟩
 obtain ⟨q2, e2⟩ : ∃ q, 7 * q1 = q := ⟨_, rfl⟩
 obtain ⟨q3, e3⟩ : ∃ q, 6 + q2 = q := ⟨_, rfl⟩
 have z1 : IntKind.i64.wrap (nx - 1) = q1 := (IntWalk.i64_in _ (by omega)).trans e1
 have z2 : IntKind.i64.wrap (7 * q1) = q2 := (IntWalk.i64_in _ (by omega)).trans e2
 have z3 : IntKind.i64.wrap (6 + q2) = q3 := (IntWalk.i64_in _ (by omega)).trans e3
 rw [e1, e2, e3] at hV
 by_cases h4 : (dt.size : Int) = q3
 ·have b4 : ((dt.size : Int) == q3) = true := by simpa using h4
  have HV := Lib.hid (show V = decide ((dt.size : Int) < sz) by rw [← hV]; simp [c0, c1, c2, c3, y0, y1, b4])
  rcases b5 : decide ((dt.size : Int) < sz)
  ·rw [b5] at HV
   clear hV h0 h1 h2 h3 e1 e2 e3 h4 k3 k4 y0 y1
   go_enter Tryz.func190, Tryz.ntmps190
   go_wp2_with (go_at_call 131; refine (from0_any _ _ _).mono ?_; (first | rw [c0] | rw [c1] | rw [c2] | rw [c3]); rintro e w' ⟨rfl, rfl⟩)
   go_ret
   exact ⟨by rw [HV.out]; rfl, (Below.refl _ _).alloc (Nat.le_refl _) _⟩
  ·rw [b5] at HV
   clear hV h0 h1 h2 h3 e1 e2 e3 h4 k3 k4 y0 y1
   go_enter Tryz.func190, Tryz.ntmps190
   go_wp2_with (go_at_call 131; refine (from0_any _ _ _).mono ?_; (first | rw [c0] | rw [c1] | rw [c2] | rw [c3]); rintro e w' ⟨rfl, rfl⟩)
   go_ret
   exact ⟨by rw [HV.out]; rfl, (Below.refl _ _).alloc (Nat.le_refl _) _⟩
 ·have b4 : ((dt.size : Int) == q3) = false := by simpa using h4
  have HV := Lib.hid (show V = false by rw [← hV]; simp [b4])
  clear hV h0 h1 h2 h3 e1 e2 e3 h4 k3 k4 y0 y1
  go_enter Tryz.func190, Tryz.ntmps190
  go_wp2_with (go_at_call 131; refine (from0_any _ _ _).mono ?_; (first | rw [c0] | rw [c1] | rw [c2] | rw [c3]); rintro e w' ⟨rfl, rfl⟩)
  go_ret
  exact ⟨by rw [HV.out]; rfl, (Below.refl _ _).alloc (Nat.le_refl _) _⟩
end Go.Proofs.YtioldepgoodipaaGreat
namespace Go.Proofs.YtioldepgoodipaaGreat
open Go.RowKit
set_option linter.unusedVariables false

section
variable {P : Program} {C : World → Prop} {W : World}
theorem quietLoadCells {o : Oper} {a : Act} (ty : TypeId) (x : Operand) (ho : o.op = .load ty x) (g k : Nat) (hx : a.eval x = .pointer (some ⟨g, k, none⟩))
  (cs : List Value) (hcs : ∀ (j : Nat) v, cs[j]? = some v → W.cell? ⟨g, k + j, none⟩ = some v) (d : TypeDesc) (hu : P.underlying ty = some d) (hd : d.isRow = true) (hi : (P.info? ty).map (·.size) = some cs.length) :
  o.quietAt P a C W (.agg cs.toArray) := by
 unfold Oper.quietAt execOp
 simp only [ho, hx, Instr.loadAt, Instr.sureAddr, Sem.run_bind, Sem.run_pure, Result.andThen_ok, run_loadVar_mid W g k ty cs d hcs hu hd hi]
 exact ⟨rfl, rfl⟩
theorem quietLoadOne {o : Oper} {a : Act} (ty : TypeId) (x : Operand) (ho : o.op = .load ty x) (g k : Nat) (hx : a.eval x = .pointer (some ⟨g, k, none⟩))
  (v : Value) (hv : W.cell? ⟨g, k, none⟩ = some v) (d : TypeDesc) (hu : P.underlying ty = some d) (hd : d.isRow = false) :
  o.quietAt P a C W v := by
 have hagg : (isAgg ty).run P W = .ok false W := by
  unfold isAgg
  rw [Sem.run_bind, run_underlying hu W]
  cases d <;> simp_all
 have hrun : (loadVar ty ⟨g, k, none⟩).run P W = .ok v W := by
  simp [loadVar, Sem.run_bind, hagg, run_load, hv]
 unfold Oper.quietAt execOp
 simp only [ho, hx, Instr.loadAt, Instr.sureAddr, Sem.run_bind, Sem.run_pure, Result.andThen_ok, hrun]
 exact ⟨rfl, rfl⟩
theorem rowCells {W0 : World} {g : Nat} {row : Array Value} {t : TypeId} (hg : W0.heap[g]? = some (.cells row t (0, 0))) (hW : Below W0.heap.size W0 W) (k : Nat) (v : Value) (hv : row[k]? = some v) : W.cell? ⟨g, k, none⟩ = some v :=
 (hW.cell (p := ⟨g, k, none⟩) (Array.getElem?_eq_some_iff.1 hg).1).trans ((cell_of_row W0 g k row t (0, 0) hg).trans hv)
theorem grownCells {W0 : World} {g k : Nat} {cs : List Value} (hlt : g < W0.heap.size) (h : ∀ (j : Nat) v, cs[j]? = some v → W0.cell? ⟨g, k + j, none⟩ = some v) (hW : Below W0.heap.size W0 W) : ∀ (j : Nat) v, cs[j]? = some v → W.cell? ⟨g, k + j, none⟩ = some v :=
 fun j v hv => (hW.cell (p := ⟨g, _, none⟩) hlt).trans (h j v hv)
end
theorem rowAll {W0 W : World} {g : Nat} {row : List Value} {t : TypeId} (hg : W0.heap[g]? = some (.cells row.toArray t (0, 0))) (hW : Below W0.heap.size W0 W) : ∀ (j : Nat) v, row[j]? = some v → W.cell? ⟨g, 0 + j, none⟩ = some v :=
 fun j v hv => rowCells hg hW (0 + j) v (by rw [Nat.zero_add]; simpa using hv)
section
variable {P : Program} {ops : Array Oper} {rest : List Oper} {o : Oper} {a : Act} {w : World} {Q : Exit → Act → World → Prop}
theorem wpList_load_one1 (hgd : Region.wanted o (yielded ops a.tmps) = true) (ty : TypeId) (x : Operand) (ho : o.op = .load ty x) (g k : Nat) (hx : a.eval x = .pointer (some ⟨g, k, none⟩))
  (v : Value) (hv : w.cell? ⟨g, k, none⟩ = some v) (d : TypeDesc) (hu : P.underlying ty = some d) (hd : d.isRow = false)
  (h : wpList P ops Q rest (a.put o.dst v) w) : wpList P ops Q (o :: rest) a w :=
 BigFrame.wpList_want hgd fun _ hK => by
  have hagg : (isAgg ty).run P w = .ok false w := by
   unfold isAgg
   rw [Sem.run_bind, run_underlying hu w]
   cases d <;> simp_all
  have hrun : (loadVar ty ⟨g, k, none⟩).run P w = .ok v w := by
   simp [loadVar, Sem.run_bind, hagg, run_load, hv]
  unfold Oper.wp execOp
  simp only [ho, hx, Instr.loadAt, Instr.sureAddr, Sem.run_bind, Sem.run_pure, Result.andThen_ok, hrun]
  exact hK _ _ h
end
end Go.Proofs.YtioldepgoodipaaGreat
namespace Go.Proofs.YtioldepgoodipaaGreat
open Go.RowKit
set_option linter.unusedVariables false

def seAt (l : List Se) (i : Nat) : Se := l[i]?.getD ⟨0, 0, 0, 0, 0, ByteArray.empty, 0⟩
theorem seAt_some {l : List Se} {i : Nat} (h : i < l.length) : l[i]? = some (seAt l i) := by
 unfold seAt
 rw [List.getElem?_eq_getElem h]
 rfl
def SesOk (l : List Se) : Prop := ∀ x ∈ l, SeOk x
theorem seAt_ok {l : List Se} (h : SesOk l) {i : Nat} (hi : i < l.length) : SeOk (seAt l i) := h _ (List.mem_of_getElem? (seAt_some hi))
def okAt (l : List Se) (i : Nat) : Bool := seB (seAt l i) && (decide (i = 0) || lessB (seAt l (i - 1)) (seAt l i).src (seAt l i).pgn)
def tabB (l : List Se) : Bool := decide (l.length ≤ 4) && (List.range l.length).all (okAt l)
def TabTo (l : List Se) (n : Nat) : Prop := ∀ i, i < n → okAt l i = true
theorem TabTo.zero (l : List Se) : TabTo l 0 := fun i h => absurd h (by omega)
theorem TabTo.next {l : List Se} {n : Nat} (h : TabTo l n) (hn : okAt l n = true) : TabTo l (n + 1) := by
 intro i hi
 rcases Nat.lt_or_ge i n with h' | h'
 ·exact h i h'
 ·obtain rfl : i = n := by omega
  exact hn
theorem tabB_yes {l : List Se} (h4 : l.length ≤ 4) (h : TabTo l l.length) : tabB l = true := by
 unfold tabB
 rw [decide_eq_true h4, Bool.true_and, List.all_eq_true]
 exact fun i hi => h i (by simpa using hi)
theorem tabB_no {l : List Se} {i : Nat} (hi : i < l.length) (h : okAt l i = false) : tabB l = false := by
 unfold tabB
 rw [Bool.and_eq_false_iff]
 right
 rw [List.all_eq_false]
 exact ⟨i, by simpa using hi, by rw [h]; simp⟩
theorem tabB_long {l : List Se} (h : 4 < l.length) : tabB l = false := by
 unfold tabB
 rw [decide_eq_false (by omega), Bool.false_and]
theorem tabB_of {l : List Se} (h : tabB l = true) : l.length ≤ 4 ∧ TabTo l l.length := by
 unfold tabB at h
 rw [Bool.and_eq_true, List.all_eq_true] at h
 exact ⟨of_decide_eq_true h.1, fun i hi => h.2 i (by simpa using hi)⟩


set_option maxRecDepth 100000 in
set_option maxHeartbeats 8000000 in
theorem specTable_any (a : Option Addr) (cap : Nat) (l : List Se) (w : World) (h : RsIn seL 7 w a l) (hok : SesOk l) (hlen : l.length ≤ maxLen) :
  Calls Tryz.prog 80 #[.slice a l.length cap] w fun e w' => e = .returned (.bool (tabB l)) ∧ Below w.heap.size w w' := by
 unfold maxLen at hlen
 by_cases hbig : 4 < l.length
 ·have hd : decide ((4 : Int) < (l.length : Int)) = true := decide_eq_true (by omega)
  have HV := Lib.hid (tabB_long hbig)
  go_enter Tryz.func80, Tryz.ntmps80
  go_wp2_with fail
  go_ret
  exact ⟨by rw [HV.out]; rfl, Below.refl _ _⟩
 have hd : decide ((4 : Int) < (l.length : Int)) = false := decide_eq_false (by omega)
 have HI := Lib.hid h
 have HK := Lib.hid hok
 obtain ⟨N, hN⟩ : ∃ N, l.length = N := ⟨_, rfl⟩
 have HN := Lib.hid hN
 rw [hN] at hbig hd ⊢
 clear hlen h hok hN
 go_enter Tryz.func80, Tryz.ntmps80
 go_wp2_with fail
 go_loopw [3] (fun i wr => ∃ k : Nat, i = .int .i64 (k : Int) ∧ k ≤ N ∧ TabTo l k ∧ Below w.heap.size w wr) (fun i _ => N - (intOf i).toNat)
 case atStart => exact ⟨0, rfl, by omega, TabTo.zero l, Below.refl _ _⟩
 case round =>
  obtain ⟨k, rfl, hk, hup, hb⟩ := hrel
  have HU := Lib.hid hup
  clear hup
  by_cases hkn : k < N
  ·have hkl : k < l.length := by have := HN.out; omega
   have hi1 : (0 : Int) ≤ (k : Int) := by omega
   have hi2 : (k : Int) < (N : Int) := by omega
   obtain ⟨b, o, rfl, hlt, hc⟩ := HI.out.at (by omega)
   have lB : b < wr.heap.size := Nat.lt_of_lt_of_le hlt hb.size
   have HCs := Lib.hid (fun j v hv => (hb.cell (p := ⟨b, _, none⟩) hlt).trans (hc k _ (seAt_some hkl) j v hv))
   have HCp := Lib.hid (fun m (hm : k = m + 1) j v hv => (hb.cell (p := ⟨b, _, none⟩) hlt).trans (hc m _ (seAt_some (l := l) (i := m) (by omega)) j v hv))
   have HNo := Lib.hid (@tabB_no l k hkl)
   have HNx := Lib.hid (@TabTo.next l k HU.out)
   have HE := Lib.hid (show okAt l k = (seB (seAt l k) && (decide (k = 0) || lessB (seAt l (k - 1)) (seAt l k).src (seAt l k).pgn)) from rfl)
   have HSe := Lib.hid (seAt_ok HK.out hkl)
   clear hc
   generalize hx : seAt l k = x at *
   obtain ⟨src, pgn, sq, nx, sz, dt, ag⟩ := x
   unfold seL at HCs
   dsimp only at *
   go_wp2_with (first
    | (refine wpList_load_cells rfl 159 (.tmp 16) rfl b (o + k * 7) rfl [.int .i64 src, .int .i64 pgn, .int .i64 sq, .int .i64 nx, .int .i64 sz, .string dt, .int .i64 ag] HCs.out _ Tryz.underlying159 rfl (by kernel_rfl) ?_)
    | (refine wpList_alloc_h rfl 159 rfl (.agg #[.int .i64 0, .int .i64 0, .int .i64 0, .int .i64 0, .int .i64 0, .string ByteArray.empty, .int .i64 0]) (by kernel_rfl) #[.int .i64 0, .int .i64 0, .int .i64 0, .int .i64 0, .int .i64 0, .string ByteArray.empty, .int .i64 0] rfl ?_; intro w1 R1 e1 g1 b1; have HL1 := Lib.hid (show Lg wr w1 [(R1, (qA0), 159)] [] from (Lg.first wr).box e1 g1 b1); clear g1 b1 e1)
    | (refine wpList_put_at rfl 159 (.tmp 4) (.tmp 17) rfl rfl (R1) 0 rfl _ rfl #[.int .i64 src, .int .i64 pgn, .int .i64 sq, .int .i64 nx, .int .i64 sz, .string dt, .int .i64 ag] rfl 159 (qA0) (qA1 src pgn sq nx sz dt ag) (HL1.out.get (.head _)) (by kernel_rfl) (by kernel_rfl) (by kernel_rfl) (by kernel_rfl) ?_; intro w2 g2 o2; have HL2 := Lib.hid (show Lg wr w2 [(R1, (qA1 src pgn sq nx sz dt ag), 159)] [] from HL1.out.put 0 rfl g2 o2 (fun _ h => nomatch h) (fun _ h => nomatch h) rfl); clear g2 o2)
    | (refine wpList_load_one rfl 2 (.tmp 18) rfl (R1) 0 rfl 159 (qA1 src pgn sq nx sz dt ag) (0, 0) (HL2.out.get (.head _)) (.int .i64 src) rfl _ Tryz.underlying2 rfl (by kernel_rfl) ?_))
   refine (l02Is_any _ _ _ _).mono ?_
   rcases c0 : inB 0 255 src
   ·rintro e w' ⟨rfl, rfl⟩
    have HV := Lib.hid (HNo.out (by rw [HE.out]; unfold seB; simp [c0]))
    go_wp2_with fail
    go_ret
    exact ⟨by rw [HV.out]; rfl, hb.trans (HL2.out.below.mono hb.size)⟩
   rintro e w' ⟨rfl, rfl⟩
   go_wp2_with (first
    | (refine wpList_load_one rfl 2 (.tmp 23) rfl (R1) 1 rfl 159 (qA1 src pgn sq nx sz dt ag) (0, 0) (HL2.out.get (.head _)) (.int .i64 pgn) rfl _ Tryz.underlying2 rfl (by kernel_rfl) ?_))
   refine (l02Pgn_any _ _).mono ?_
   rcases c1 : inB 0 131071 pgn
   ·rintro e w' ⟨rfl, rfl⟩
    have HV := Lib.hid (HNo.out (by rw [HE.out]; unfold seB; simp [c0, c1]))
    go_wp2_with fail
    go_ret
    exact ⟨by rw [HV.out]; rfl, hb.trans (HL2.out.below.mono hb.size)⟩
   rintro e w' ⟨rfl, rfl⟩
   go_wp2_with (first
    | (refine wpList_load_one rfl 2 (.tmp 29) rfl (R1) 2 rfl 159 (qA1 src pgn sq nx sz dt ag) (0, 0) (HL2.out.get (.head _)) (.int .i64 sq) rfl _ Tryz.underlying2 rfl (by kernel_rfl) ?_))
   refine (l02Is_any _ _ _ _).mono ?_
   rcases c2 : inB 0 7 sq
   ·rintro e w' ⟨rfl, rfl⟩
    have HV := Lib.hid (HNo.out (by rw [HE.out]; unfold seB; simp [c0, c1, c2]))
    go_wp2_with fail
    go_ret
    exact ⟨by rw [HV.out]; rfl, hb.trans (HL2.out.below.mono hb.size)⟩
   rintro e w' ⟨rfl, rfl⟩
   go_wp2_with (first
    | (refine wpList_load_one rfl 2 (.tmp 35) rfl (R1) 3 rfl 159 (qA1 src pgn sq nx sz dt ag) (0, 0) (HL2.out.get (.head _)) (.int .i64 nx) rfl _ Tryz.underlying2 rfl (by kernel_rfl) ?_))
   refine (l02Is_any _ _ _ _).mono ?_
   rcases c3 : inB 1 31 nx
   ·rintro e w' ⟨rfl, rfl⟩
    have HV := Lib.hid (HNo.out (by rw [HE.out]; unfold seB; simp [c0, c1, c2, c3]))
    go_wp2_with fail
    go_ret
    exact ⟨by rw [HV.out]; rfl, hb.trans (HL2.out.below.mono hb.size)⟩
   rintro e w' ⟨rfl, rfl⟩
   go_wp2_with (first
    | (refine wpList_load_one rfl 2 (.tmp 41) rfl (R1) 4 rfl 159 (qA1 src pgn sq nx sz dt ag) (0, 0) (HL2.out.get (.head _)) (.int .i64 sz) rfl _ Tryz.underlying2 rfl (by kernel_rfl) ?_))
   refine (l02Is_any _ _ _ _).mono ?_
   rcases c4 : inB 7 223 sz
   ·rintro e w' ⟨rfl, rfl⟩
    have HV := Lib.hid (HNo.out (by rw [HE.out]; unfold seB; simp [c0, c1, c2, c3, c4]))
    go_wp2_with fail
    go_ret
    exact ⟨by rw [HV.out]; rfl, hb.trans (HL2.out.below.mono hb.size)⟩
   rintro e w' ⟨rfl, rfl⟩
   go_wp2_with (first
    | (refine wpList_load_one rfl 2 (.tmp 47) rfl (R1) 6 rfl 159 (qA1 src pgn sq nx sz dt ag) (0, 0) (HL2.out.get (.head _)) (.int .i64 ag) rfl _ Tryz.underlying2 rfl (by kernel_rfl) ?_))
   refine (l02Is_any _ _ _ _).mono ?_
   rcases c5 : inB 0 750 ag
   ·rintro e w' ⟨rfl, rfl⟩
    have HV := Lib.hid (HNo.out (by rw [HE.out]; unfold seB; simp [c0, c1, c2, c3, c4, c5]))
    go_wp2_with fail
    go_ret
    exact ⟨by rw [HV.out]; rfl, hb.trans (HL2.out.below.mono hb.size)⟩
   rintro e w' ⟨rfl, rfl⟩
   go_wp2_with fail
   have g3 := inB_of c3
   have g4 := inB_of c4
   obtain ⟨q1, e1⟩ : ∃ q, nx - 1 = q := ⟨_, rfl⟩
   obtain ⟨q2, e2⟩ : ∃ q, 7 * q1 = q := ⟨_, rfl⟩
   obtain ⟨q3, e3⟩ : ∃ q, 6 + q2 = q := ⟨_, rfl⟩
   have z1 : IntKind.i64.wrap (nx - 1) = q1 := (IntWalk.i64_in _ (by omega)).trans e1
   have z2 : IntKind.i64.wrap (7 * q1) = q2 := (IntWalk.i64_in _ (by omega)).trans e2
   have z3 : IntKind.i64.wrap (6 + q2) = q3 := (IntWalk.i64_in _ (by omega)).trans e3
   have HQ := Lib.hid (show 6 + 7 * (nx - 1) = q3 by rw [e1, e2, e3])
   clear e1 e2 e3 g3 g4
   have lY : b < w2.heap.size := Nat.lt_of_lt_of_le lB HL2.out.below.size
   by_cases h4 : (dt.size : Int) = q3
   ·have b4 : ((dt.size : Int) != q3) = false := by simpa using h4
    have H4 := Lib.hid h4
    clear h4
    by_cases h5 : sz ≤ (dt.size : Int)
    ·have b5 : decide (sz ≤ (dt.size : Int)) = true := decide_eq_true h5
     have HV := Lib.hid (HNo.out (by rw [HE.out]; unfold seB; simp [c0, c1, c2, c3, c4, c5, HQ.out, show ¬ q3 < sz by have := H4.out; omega, H4.out]))
     clear HNo HNx HE HU HK HI
     obtain ⟨m, y, HY⟩ : ∃ (m : Nat) (y : Se), Hid (∀ (j : Nat) v, (seL y)[j]? = some v → w2.cell? ⟨b, o + m * 7 + j, none⟩ = some v) := ⟨k, ⟨src, pgn, sq, nx, sz, dt, ag⟩, Lib.hid (grownCells lB HCs.out HL2.out.below)⟩
     refine wp_region_quiet (C := fun W => Below w2.heap.size w2 W) (by kernel_rfl) (by kernel_rfl) (Below.refl _ _).drew ?_
     dsimp only
     go_big_quiet_want; go_big_quiet_op; first | go_big_quiet_on | (refine ⟨_, fun _ _ => rfl, ?_⟩; go_big_quiet_on)
     go_big_quiet_want; refine ⟨.string dt, fun W hW => (quietLoadOne 9 (.tmp 52) rfl R1 5 rfl _ (rowCells (HL2.out.get (.head _)) hW 5 _ rfl) _ Tryz.underlying9 rfl), ?_⟩; simp only [Act.put, List.setIfInBounds_toArray, List.set_cons_zero, List.set_cons_succ]; go_big_quiet_on
     iterate 2 (go_big_quiet_want; go_big_quiet_op; first | go_big_quiet_on | (refine ⟨_, fun _ _ => rfl, ?_⟩; go_big_quiet_on))
     go_big_quiet_want; refine ⟨.int .i64 nx, fun W hW => (quietLoadOne 2 (.tmp 55) rfl R1 3 rfl _ (rowCells (HL2.out.get (.head _)) hW 3 _ rfl) _ Tryz.underlying2 rfl), ?_⟩; simp only [Act.put, List.setIfInBounds_toArray, List.set_cons_zero, List.set_cons_succ]; go_big_quiet_on
     iterate 5 (go_big_quiet_want; go_big_quiet_op; first | go_big_quiet_on | (refine ⟨_, fun _ _ => rfl, ?_⟩; go_big_quiet_on))
     first | go_big_quiet_skip | (go_big_quiet_want; go_big_quiet_op; first | go_big_quiet_on | (refine ⟨_, fun _ _ => rfl, ?_⟩; go_big_quiet_on))
     first | go_big_quiet_skip | (go_big_quiet_want; refine ⟨.string dt, fun W hW => (quietLoadOne 9 (.tmp 62) rfl R1 5 rfl _ (rowCells (HL2.out.get (.head _)) hW 5 _ rfl) _ Tryz.underlying9 rfl), ?_⟩; simp only [Act.put, List.setIfInBounds_toArray, List.set_cons_zero, List.set_cons_succ]; go_big_quiet_on)
     iterate 2 (first | go_big_quiet_skip | (go_big_quiet_want; go_big_quiet_op; first | go_big_quiet_on | (refine ⟨_, fun _ _ => rfl, ?_⟩; go_big_quiet_on)))
     first | go_big_quiet_skip | (go_big_quiet_want; refine ⟨.int .i64 sz, fun W hW => (quietLoadOne 2 (.tmp 65) rfl R1 4 rfl _ (rowCells (HL2.out.get (.head _)) hW 4 _ rfl) _ Tryz.underlying2 rfl), ?_⟩; simp only [Act.put, List.setIfInBounds_toArray, List.set_cons_zero, List.set_cons_succ]; go_big_quiet_on)
     first | go_big_quiet_skip | (go_big_quiet_want; go_big_quiet_op; first | go_big_quiet_on | (refine ⟨_, fun _ _ => rfl, ?_⟩; go_big_quiet_on))
     iterate 2 (go_big_quiet_want; go_big_quiet_op; first | go_big_quiet_on | (refine ⟨_, fun _ _ => rfl, ?_⟩; go_big_quiet_on))
     iterate 7 (first | go_big_quiet_skip | (go_big_quiet_want; go_big_quiet_op; first | go_big_quiet_on | (refine ⟨_, fun _ _ => rfl, ?_⟩; go_big_quiet_on)))
     first | go_big_quiet_skip | (go_big_quiet_want; refine ⟨.agg (seL y).toArray, fun W hW => (quietLoadCells 159 (.tmp 76) rfl b (o + m * 7) rfl (seL y) (grownCells lY HY.out hW) _ Tryz.underlying159 rfl (by kernel_rfl)), ?_⟩; simp only [Act.put, List.setIfInBounds_toArray, List.set_cons_zero, List.set_cons_succ]; go_big_quiet_on)
     first | go_big_quiet_skip | (go_big_quiet_want; go_big_quiet_op; first | go_big_quiet_on | (refine ⟨_, fun _ _ => rfl, ?_⟩; go_big_quiet_on))
     first | go_big_quiet_skip | (go_big_quiet_want; refine ⟨.int .i64 src, fun W hW => (quietLoadOne 2 (.tmp 78) rfl R1 0 rfl _ (rowCells (HL2.out.get (.head _)) hW 0 _ rfl) _ Tryz.underlying2 rfl), ?_⟩; simp only [Act.put, List.setIfInBounds_toArray, List.set_cons_zero, List.set_cons_succ]; go_big_quiet_on)
     first | go_big_quiet_skip | (go_big_quiet_want; go_big_quiet_op; first | go_big_quiet_on | (refine ⟨_, fun _ _ => rfl, ?_⟩; go_big_quiet_on))
     first | go_big_quiet_skip | (go_big_quiet_want; refine ⟨.int .i64 pgn, fun W hW => (quietLoadOne 2 (.tmp 80) rfl R1 1 rfl _ (rowCells (HL2.out.get (.head _)) hW 1 _ rfl) _ Tryz.underlying2 rfl), ?_⟩; simp only [Act.put, List.setIfInBounds_toArray, List.set_cons_zero, List.set_cons_succ]; go_big_quiet_on)
     first | go_big_quiet_skip | (go_big_quiet_want; go_big_quiet_op; refine ⟨_, fun W hW => quietCall hW (l06Less_any y src pgn W), ?_⟩; go_big_quiet_on)
     iterate 2 (first | go_big_quiet_skip | (go_big_quiet_want; go_big_quiet_op; first | go_big_quiet_on | (refine ⟨_, fun _ _ => rfl, ?_⟩; go_big_quiet_on)))
     go_big_quiet_want; go_big_quiet_op; first | go_big_quiet_on | (refine ⟨_, fun _ _ => rfl, ?_⟩; go_big_quiet_on)
     refine wpQuiet_nil ?_
     intro X hX
     go_wp2_with fail
     go_ret
     exact ⟨by rw [HV.out]; rfl, hb.trans ((HL2.out.below.trans (hX.mono HL2.out.below.size)).mono hb.size)⟩
    have b5 : decide (sz ≤ (dt.size : Int)) = false := decide_eq_false h5
    rcases k with _ | m
    ·have HT := Lib.hid (HNx.out (by rw [HE.out]; unfold seB; simp [c0, c1, c2, c3, c4, c5, HQ.out, H4.out, show q3 < sz by have := H4.out; omega]))
     have e0 : decide ((0 : Int) < ((0 : Nat) : Int)) = false := rfl
     clear HNo HNx HE HU HK HI
     obtain ⟨m, y, HY⟩ : ∃ (m : Nat) (y : Se), Hid (∀ (j : Nat) v, (seL y)[j]? = some v → w2.cell? ⟨b, o + m * 7 + j, none⟩ = some v) := ⟨0, ⟨src, pgn, sq, nx, sz, dt, ag⟩, Lib.hid (grownCells lB HCs.out HL2.out.below)⟩
     refine wp_region_quiet (C := fun W => Below w2.heap.size w2 W) (by kernel_rfl) (by kernel_rfl) (Below.refl _ _).drew ?_
     dsimp only
     go_big_quiet_want; go_big_quiet_op; first | go_big_quiet_on | (refine ⟨_, fun _ _ => rfl, ?_⟩; go_big_quiet_on)
     go_big_quiet_want; refine ⟨.string dt, fun W hW => (quietLoadOne 9 (.tmp 52) rfl R1 5 rfl _ (rowCells (HL2.out.get (.head _)) hW 5 _ rfl) _ Tryz.underlying9 rfl), ?_⟩; simp only [Act.put, List.setIfInBounds_toArray, List.set_cons_zero, List.set_cons_succ]; go_big_quiet_on
     iterate 2 (go_big_quiet_want; go_big_quiet_op; first | go_big_quiet_on | (refine ⟨_, fun _ _ => rfl, ?_⟩; go_big_quiet_on))
     go_big_quiet_want; refine ⟨.int .i64 nx, fun W hW => (quietLoadOne 2 (.tmp 55) rfl R1 3 rfl _ (rowCells (HL2.out.get (.head _)) hW 3 _ rfl) _ Tryz.underlying2 rfl), ?_⟩; simp only [Act.put, List.setIfInBounds_toArray, List.set_cons_zero, List.set_cons_succ]; go_big_quiet_on
     iterate 5 (go_big_quiet_want; go_big_quiet_op; first | go_big_quiet_on | (refine ⟨_, fun _ _ => rfl, ?_⟩; go_big_quiet_on))
     first | go_big_quiet_skip | (go_big_quiet_want; go_big_quiet_op; first | go_big_quiet_on | (refine ⟨_, fun _ _ => rfl, ?_⟩; go_big_quiet_on))
     first | go_big_quiet_skip | (go_big_quiet_want; refine ⟨.string dt, fun W hW => (quietLoadOne 9 (.tmp 62) rfl R1 5 rfl _ (rowCells (HL2.out.get (.head _)) hW 5 _ rfl) _ Tryz.underlying9 rfl), ?_⟩; simp only [Act.put, List.setIfInBounds_toArray, List.set_cons_zero, List.set_cons_succ]; go_big_quiet_on)
     iterate 2 (first | go_big_quiet_skip | (go_big_quiet_want; go_big_quiet_op; first | go_big_quiet_on | (refine ⟨_, fun _ _ => rfl, ?_⟩; go_big_quiet_on)))
     first | go_big_quiet_skip | (go_big_quiet_want; refine ⟨.int .i64 sz, fun W hW => (quietLoadOne 2 (.tmp 65) rfl R1 4 rfl _ (rowCells (HL2.out.get (.head _)) hW 4 _ rfl) _ Tryz.underlying2 rfl), ?_⟩; simp only [Act.put, List.setIfInBounds_toArray, List.set_cons_zero, List.set_cons_succ]; go_big_quiet_on)
     first | go_big_quiet_skip | (go_big_quiet_want; go_big_quiet_op; first | go_big_quiet_on | (refine ⟨_, fun _ _ => rfl, ?_⟩; go_big_quiet_on))
     iterate 2 (go_big_quiet_want; go_big_quiet_op; first | go_big_quiet_on | (refine ⟨_, fun _ _ => rfl, ?_⟩; go_big_quiet_on))
     iterate 7 (first | go_big_quiet_skip | (go_big_quiet_want; go_big_quiet_op; first | go_big_quiet_on | (refine ⟨_, fun _ _ => rfl, ?_⟩; go_big_quiet_on)))
     first | go_big_quiet_skip | (go_big_quiet_want; refine ⟨.agg (seL y).toArray, fun W hW => (quietLoadCells 159 (.tmp 76) rfl b (o + m * 7) rfl (seL y) (grownCells lY HY.out hW) _ Tryz.underlying159 rfl (by kernel_rfl)), ?_⟩; simp only [Act.put, List.setIfInBounds_toArray, List.set_cons_zero, List.set_cons_succ]; go_big_quiet_on)
     first | go_big_quiet_skip | (go_big_quiet_want; go_big_quiet_op; first | go_big_quiet_on | (refine ⟨_, fun _ _ => rfl, ?_⟩; go_big_quiet_on))
     first | go_big_quiet_skip | (go_big_quiet_want; refine ⟨.int .i64 src, fun W hW => (quietLoadOne 2 (.tmp 78) rfl R1 0 rfl _ (rowCells (HL2.out.get (.head _)) hW 0 _ rfl) _ Tryz.underlying2 rfl), ?_⟩; simp only [Act.put, List.setIfInBounds_toArray, List.set_cons_zero, List.set_cons_succ]; go_big_quiet_on)
     first | go_big_quiet_skip | (go_big_quiet_want; go_big_quiet_op; first | go_big_quiet_on | (refine ⟨_, fun _ _ => rfl, ?_⟩; go_big_quiet_on))
     first | go_big_quiet_skip | (go_big_quiet_want; refine ⟨.int .i64 pgn, fun W hW => (quietLoadOne 2 (.tmp 80) rfl R1 1 rfl _ (rowCells (HL2.out.get (.head _)) hW 1 _ rfl) _ Tryz.underlying2 rfl), ?_⟩; simp only [Act.put, List.setIfInBounds_toArray, List.set_cons_zero, List.set_cons_succ]; go_big_quiet_on)
     first | go_big_quiet_skip | (go_big_quiet_want; go_big_quiet_op; refine ⟨_, fun W hW => quietCall hW (l06Less_any y src pgn W), ?_⟩; go_big_quiet_on)
     iterate 2 (first | go_big_quiet_skip | (go_big_quiet_want; go_big_quiet_op; first | go_big_quiet_on | (refine ⟨_, fun _ _ => rfl, ?_⟩; go_big_quiet_on)))
     go_big_quiet_want; go_big_quiet_op; first | go_big_quiet_on | (refine ⟨_, fun _ _ => rfl, ?_⟩; go_big_quiet_on)
     refine wpQuiet_nil ?_
     intro X hX
     go_wp2_with fail
     go_roundw
     case rel => exact ⟨0 + 1, by go_num, by omega, HT.out, hb.trans ((HL2.out.below.trans (hX.mono HL2.out.below.size)).mono hb.size)⟩
     case measure => simp [intOf]; omega
    have e0 : decide ((0 : Int) < ((m + 1 : Nat) : Int)) = true := decide_eq_true (by omega)
    have e1 : IntKind.i64.wrap (((m + 1 : Nat) : Int) - 1) = (m : Int) := by rw [IntWalk.i64_in _ (by omega)]; omega
    have hm1 : (0 : Int) ≤ (m : Int) := by omega
    have hm2 : (m : Int) < (N : Int) := by omega
    have HY := Lib.hid (grownCells lB (HCp.out m rfl) HL2.out.below)
    rw [show m + 1 - 1 = m by omega] at HE
    generalize seAt l m = y at *
    rcases c7 : lessB y src pgn
    ·have HV := Lib.hid (HNo.out (by rw [HE.out]; unfold seB; simp [c0, c1, c2, c3, c4, c5, HQ.out, H4.out, c7, show q3 < sz by have := H4.out; omega]))
     clear HNo HNx HE HU HK HI
     refine wp_region_quiet (C := fun W => Below w2.heap.size w2 W) (by kernel_rfl) (by kernel_rfl) (Below.refl _ _).drew ?_
     dsimp only
     go_big_quiet_want; go_big_quiet_op; first | go_big_quiet_on | (refine ⟨_, fun _ _ => rfl, ?_⟩; go_big_quiet_on)
     go_big_quiet_want; refine ⟨.string dt, fun W hW => (quietLoadOne 9 (.tmp 52) rfl R1 5 rfl _ (rowCells (HL2.out.get (.head _)) hW 5 _ rfl) _ Tryz.underlying9 rfl), ?_⟩; simp only [Act.put, List.setIfInBounds_toArray, List.set_cons_zero, List.set_cons_succ]; go_big_quiet_on
     iterate 2 (go_big_quiet_want; go_big_quiet_op; first | go_big_quiet_on | (refine ⟨_, fun _ _ => rfl, ?_⟩; go_big_quiet_on))
     go_big_quiet_want; refine ⟨.int .i64 nx, fun W hW => (quietLoadOne 2 (.tmp 55) rfl R1 3 rfl _ (rowCells (HL2.out.get (.head _)) hW 3 _ rfl) _ Tryz.underlying2 rfl), ?_⟩; simp only [Act.put, List.setIfInBounds_toArray, List.set_cons_zero, List.set_cons_succ]; go_big_quiet_on
     iterate 5 (go_big_quiet_want; go_big_quiet_op; first | go_big_quiet_on | (refine ⟨_, fun _ _ => rfl, ?_⟩; go_big_quiet_on))
     first | go_big_quiet_skip | (go_big_quiet_want; go_big_quiet_op; first | go_big_quiet_on | (refine ⟨_, fun _ _ => rfl, ?_⟩; go_big_quiet_on))
     first | go_big_quiet_skip | (go_big_quiet_want; refine ⟨.string dt, fun W hW => (quietLoadOne 9 (.tmp 62) rfl R1 5 rfl _ (rowCells (HL2.out.get (.head _)) hW 5 _ rfl) _ Tryz.underlying9 rfl), ?_⟩; simp only [Act.put, List.setIfInBounds_toArray, List.set_cons_zero, List.set_cons_succ]; go_big_quiet_on)
     iterate 2 (first | go_big_quiet_skip | (go_big_quiet_want; go_big_quiet_op; first | go_big_quiet_on | (refine ⟨_, fun _ _ => rfl, ?_⟩; go_big_quiet_on)))
     first | go_big_quiet_skip | (go_big_quiet_want; refine ⟨.int .i64 sz, fun W hW => (quietLoadOne 2 (.tmp 65) rfl R1 4 rfl _ (rowCells (HL2.out.get (.head _)) hW 4 _ rfl) _ Tryz.underlying2 rfl), ?_⟩; simp only [Act.put, List.setIfInBounds_toArray, List.set_cons_zero, List.set_cons_succ]; go_big_quiet_on)
     first | go_big_quiet_skip | (go_big_quiet_want; go_big_quiet_op; first | go_big_quiet_on | (refine ⟨_, fun _ _ => rfl, ?_⟩; go_big_quiet_on))
     iterate 2 (go_big_quiet_want; go_big_quiet_op; first | go_big_quiet_on | (refine ⟨_, fun _ _ => rfl, ?_⟩; go_big_quiet_on))
     iterate 7 (first | go_big_quiet_skip | (go_big_quiet_want; go_big_quiet_op; first | go_big_quiet_on | (refine ⟨_, fun _ _ => rfl, ?_⟩; go_big_quiet_on)))
     first | go_big_quiet_skip | (go_big_quiet_want; refine ⟨.agg (seL y).toArray, fun W hW => (quietLoadCells 159 (.tmp 76) rfl b (o + m * 7) rfl (seL y) (grownCells lY HY.out hW) _ Tryz.underlying159 rfl (by kernel_rfl)), ?_⟩; simp only [Act.put, List.setIfInBounds_toArray, List.set_cons_zero, List.set_cons_succ]; go_big_quiet_on)
     first | go_big_quiet_skip | (go_big_quiet_want; go_big_quiet_op; first | go_big_quiet_on | (refine ⟨_, fun _ _ => rfl, ?_⟩; go_big_quiet_on))
     first | go_big_quiet_skip | (go_big_quiet_want; refine ⟨.int .i64 src, fun W hW => (quietLoadOne 2 (.tmp 78) rfl R1 0 rfl _ (rowCells (HL2.out.get (.head _)) hW 0 _ rfl) _ Tryz.underlying2 rfl), ?_⟩; simp only [Act.put, List.setIfInBounds_toArray, List.set_cons_zero, List.set_cons_succ]; go_big_quiet_on)
     first | go_big_quiet_skip | (go_big_quiet_want; go_big_quiet_op; first | go_big_quiet_on | (refine ⟨_, fun _ _ => rfl, ?_⟩; go_big_quiet_on))
     first | go_big_quiet_skip | (go_big_quiet_want; refine ⟨.int .i64 pgn, fun W hW => (quietLoadOne 2 (.tmp 80) rfl R1 1 rfl _ (rowCells (HL2.out.get (.head _)) hW 1 _ rfl) _ Tryz.underlying2 rfl), ?_⟩; simp only [Act.put, List.setIfInBounds_toArray, List.set_cons_zero, List.set_cons_succ]; go_big_quiet_on)
     first | go_big_quiet_skip | (go_big_quiet_want; go_big_quiet_op; refine ⟨_, fun W hW => (by have := quietCall hW (l06Less_any y src pgn W); rw [c7] at this; exact this), ?_⟩; go_big_quiet_on)
     iterate 2 (first | go_big_quiet_skip | (go_big_quiet_want; go_big_quiet_op; first | go_big_quiet_on | (refine ⟨_, fun _ _ => rfl, ?_⟩; go_big_quiet_on)))
     go_big_quiet_want; go_big_quiet_op; first | go_big_quiet_on | (refine ⟨_, fun _ _ => rfl, ?_⟩; go_big_quiet_on)
     refine wpQuiet_nil ?_
     intro X hX
     go_wp2_with fail
     go_ret
     exact ⟨by rw [HV.out]; rfl, hb.trans ((HL2.out.below.trans (hX.mono HL2.out.below.size)).mono hb.size)⟩
    ·have HT := Lib.hid (HNx.out (by rw [HE.out]; unfold seB; simp [c0, c1, c2, c3, c4, c5, HQ.out, H4.out, c7, show q3 < sz by have := H4.out; omega]))
     clear HNo HNx HE HU HK HI
     refine wp_region_quiet (C := fun W => Below w2.heap.size w2 W) (by kernel_rfl) (by kernel_rfl) (Below.refl _ _).drew ?_
     dsimp only
     go_big_quiet_want; go_big_quiet_op; first | go_big_quiet_on | (refine ⟨_, fun _ _ => rfl, ?_⟩; go_big_quiet_on)
     go_big_quiet_want; refine ⟨.string dt, fun W hW => (quietLoadOne 9 (.tmp 52) rfl R1 5 rfl _ (rowCells (HL2.out.get (.head _)) hW 5 _ rfl) _ Tryz.underlying9 rfl), ?_⟩; simp only [Act.put, List.setIfInBounds_toArray, List.set_cons_zero, List.set_cons_succ]; go_big_quiet_on
     iterate 2 (go_big_quiet_want; go_big_quiet_op; first | go_big_quiet_on | (refine ⟨_, fun _ _ => rfl, ?_⟩; go_big_quiet_on))
     go_big_quiet_want; refine ⟨.int .i64 nx, fun W hW => (quietLoadOne 2 (.tmp 55) rfl R1 3 rfl _ (rowCells (HL2.out.get (.head _)) hW 3 _ rfl) _ Tryz.underlying2 rfl), ?_⟩; simp only [Act.put, List.setIfInBounds_toArray, List.set_cons_zero, List.set_cons_succ]; go_big_quiet_on
     iterate 5 (go_big_quiet_want; go_big_quiet_op; first | go_big_quiet_on | (refine ⟨_, fun _ _ => rfl, ?_⟩; go_big_quiet_on))
     first | go_big_quiet_skip | (go_big_quiet_want; go_big_quiet_op; first | go_big_quiet_on | (refine ⟨_, fun _ _ => rfl, ?_⟩; go_big_quiet_on))
     first | go_big_quiet_skip | (go_big_quiet_want; refine ⟨.string dt, fun W hW => (quietLoadOne 9 (.tmp 62) rfl R1 5 rfl _ (rowCells (HL2.out.get (.head _)) hW 5 _ rfl) _ Tryz.underlying9 rfl), ?_⟩; simp only [Act.put, List.setIfInBounds_toArray, List.set_cons_zero, List.set_cons_succ]; go_big_quiet_on)
     iterate 2 (first | go_big_quiet_skip | (go_big_quiet_want; go_big_quiet_op; first | go_big_quiet_on | (refine ⟨_, fun _ _ => rfl, ?_⟩; go_big_quiet_on)))
     first | go_big_quiet_skip | (go_big_quiet_want; refine ⟨.int .i64 sz, fun W hW => (quietLoadOne 2 (.tmp 65) rfl R1 4 rfl _ (rowCells (HL2.out.get (.head _)) hW 4 _ rfl) _ Tryz.underlying2 rfl), ?_⟩; simp only [Act.put, List.setIfInBounds_toArray, List.set_cons_zero, List.set_cons_succ]; go_big_quiet_on)
     first | go_big_quiet_skip | (go_big_quiet_want; go_big_quiet_op; first | go_big_quiet_on | (refine ⟨_, fun _ _ => rfl, ?_⟩; go_big_quiet_on))
     iterate 2 (go_big_quiet_want; go_big_quiet_op; first | go_big_quiet_on | (refine ⟨_, fun _ _ => rfl, ?_⟩; go_big_quiet_on))
     iterate 7 (first | go_big_quiet_skip | (go_big_quiet_want; go_big_quiet_op; first | go_big_quiet_on | (refine ⟨_, fun _ _ => rfl, ?_⟩; go_big_quiet_on)))
     first | go_big_quiet_skip | (go_big_quiet_want; refine ⟨.agg (seL y).toArray, fun W hW => (quietLoadCells 159 (.tmp 76) rfl b (o + m * 7) rfl (seL y) (grownCells lY HY.out hW) _ Tryz.underlying159 rfl (by kernel_rfl)), ?_⟩; simp only [Act.put, List.setIfInBounds_toArray, List.set_cons_zero, List.set_cons_succ]; go_big_quiet_on)
     first | go_big_quiet_skip | (go_big_quiet_want; go_big_quiet_op; first | go_big_quiet_on | (refine ⟨_, fun _ _ => rfl, ?_⟩; go_big_quiet_on))
     first | go_big_quiet_skip | (go_big_quiet_want; refine ⟨.int .i64 src, fun W hW => (quietLoadOne 2 (.tmp 78) rfl R1 0 rfl _ (rowCells (HL2.out.get (.head _)) hW 0 _ rfl) _ Tryz.underlying2 rfl), ?_⟩; simp only [Act.put, List.setIfInBounds_toArray, List.set_cons_zero, List.set_cons_succ]; go_big_quiet_on)
     first | go_big_quiet_skip | (go_big_quiet_want; go_big_quiet_op; first | go_big_quiet_on | (refine ⟨_, fun _ _ => rfl, ?_⟩; go_big_quiet_on))
     first | go_big_quiet_skip | (go_big_quiet_want; refine ⟨.int .i64 pgn, fun W hW => (quietLoadOne 2 (.tmp 80) rfl R1 1 rfl _ (rowCells (HL2.out.get (.head _)) hW 1 _ rfl) _ Tryz.underlying2 rfl), ?_⟩; simp only [Act.put, List.setIfInBounds_toArray, List.set_cons_zero, List.set_cons_succ]; go_big_quiet_on)
     first | go_big_quiet_skip | (go_big_quiet_want; go_big_quiet_op; refine ⟨_, fun W hW => (by have := quietCall hW (l06Less_any y src pgn W); rw [c7] at this; exact this), ?_⟩; go_big_quiet_on)
     iterate 2 (first | go_big_quiet_skip | (go_big_quiet_want; go_big_quiet_op; first | go_big_quiet_on | (refine ⟨_, fun _ _ => rfl, ?_⟩; go_big_quiet_on)))
     go_big_quiet_want; go_big_quiet_op; first | go_big_quiet_on | (refine ⟨_, fun _ _ => rfl, ?_⟩; go_big_quiet_on)
     refine wpQuiet_nil ?_
     intro X hX
     go_wp2_with fail
     go_roundw
     case rel => exact ⟨m + 1 + 1, by go_num, by omega, HT.out, hb.trans ((HL2.out.below.trans (hX.mono HL2.out.below.size)).mono hb.size)⟩
     case measure => simp [intOf]; omega
   ·have b4 : ((dt.size : Int) != q3) = true := by simpa using h4
    have HV := Lib.hid (HNo.out (by rw [HE.out]; unfold seB; simp [c0, c1, c2, c3, c4, c5, HQ.out, h4]))
    clear HNo HNx HE HU HK HI
    obtain ⟨m, y, HY⟩ : ∃ (m : Nat) (y : Se), Hid (∀ (j : Nat) v, (seL y)[j]? = some v → w2.cell? ⟨b, o + m * 7 + j, none⟩ = some v) := ⟨k, ⟨src, pgn, sq, nx, sz, dt, ag⟩, Lib.hid (grownCells lB HCs.out HL2.out.below)⟩
    refine wp_region_quiet (C := fun W => Below w2.heap.size w2 W) (by kernel_rfl) (by kernel_rfl) (Below.refl _ _).drew ?_
    dsimp only
    go_big_quiet_want; go_big_quiet_op; first | go_big_quiet_on | (refine ⟨_, fun _ _ => rfl, ?_⟩; go_big_quiet_on)
    go_big_quiet_want; refine ⟨.string dt, fun W hW => (quietLoadOne 9 (.tmp 52) rfl R1 5 rfl _ (rowCells (HL2.out.get (.head _)) hW 5 _ rfl) _ Tryz.underlying9 rfl), ?_⟩; simp only [Act.put, List.setIfInBounds_toArray, List.set_cons_zero, List.set_cons_succ]; go_big_quiet_on
    iterate 2 (go_big_quiet_want; go_big_quiet_op; first | go_big_quiet_on | (refine ⟨_, fun _ _ => rfl, ?_⟩; go_big_quiet_on))
    go_big_quiet_want; refine ⟨.int .i64 nx, fun W hW => (quietLoadOne 2 (.tmp 55) rfl R1 3 rfl _ (rowCells (HL2.out.get (.head _)) hW 3 _ rfl) _ Tryz.underlying2 rfl), ?_⟩; simp only [Act.put, List.setIfInBounds_toArray, List.set_cons_zero, List.set_cons_succ]; go_big_quiet_on
    iterate 5 (go_big_quiet_want; go_big_quiet_op; first | go_big_quiet_on | (refine ⟨_, fun _ _ => rfl, ?_⟩; go_big_quiet_on))
    first | go_big_quiet_skip | (go_big_quiet_want; go_big_quiet_op; first | go_big_quiet_on | (refine ⟨_, fun _ _ => rfl, ?_⟩; go_big_quiet_on))
    first | go_big_quiet_skip | (go_big_quiet_want; refine ⟨.string dt, fun W hW => (quietLoadOne 9 (.tmp 62) rfl R1 5 rfl _ (rowCells (HL2.out.get (.head _)) hW 5 _ rfl) _ Tryz.underlying9 rfl), ?_⟩; simp only [Act.put, List.setIfInBounds_toArray, List.set_cons_zero, List.set_cons_succ]; go_big_quiet_on)
    iterate 2 (first | go_big_quiet_skip | (go_big_quiet_want; go_big_quiet_op; first | go_big_quiet_on | (refine ⟨_, fun _ _ => rfl, ?_⟩; go_big_quiet_on)))
    first | go_big_quiet_skip | (go_big_quiet_want; refine ⟨.int .i64 sz, fun W hW => (quietLoadOne 2 (.tmp 65) rfl R1 4 rfl _ (rowCells (HL2.out.get (.head _)) hW 4 _ rfl) _ Tryz.underlying2 rfl), ?_⟩; simp only [Act.put, List.setIfInBounds_toArray, List.set_cons_zero, List.set_cons_succ]; go_big_quiet_on)
    first | go_big_quiet_skip | (go_big_quiet_want; go_big_quiet_op; first | go_big_quiet_on | (refine ⟨_, fun _ _ => rfl, ?_⟩; go_big_quiet_on))
    iterate 2 (go_big_quiet_want; go_big_quiet_op; first | go_big_quiet_on | (refine ⟨_, fun _ _ => rfl, ?_⟩; go_big_quiet_on))
    iterate 7 (first | go_big_quiet_skip | (go_big_quiet_want; go_big_quiet_op; first | go_big_quiet_on | (refine ⟨_, fun _ _ => rfl, ?_⟩; go_big_quiet_on)))
    first | go_big_quiet_skip | (go_big_quiet_want; refine ⟨.agg (seL y).toArray, fun W hW => (quietLoadCells 159 (.tmp 76) rfl b (o + m * 7) rfl (seL y) (grownCells lY HY.out hW) _ Tryz.underlying159 rfl (by kernel_rfl)), ?_⟩; simp only [Act.put, List.setIfInBounds_toArray, List.set_cons_zero, List.set_cons_succ]; go_big_quiet_on)
    first | go_big_quiet_skip | (go_big_quiet_want; go_big_quiet_op; first | go_big_quiet_on | (refine ⟨_, fun _ _ => rfl, ?_⟩; go_big_quiet_on))
    first | go_big_quiet_skip | (go_big_quiet_want; refine ⟨.int .i64 src, fun W hW => (quietLoadOne 2 (.tmp 78) rfl R1 0 rfl _ (rowCells (HL2.out.get (.head _)) hW 0 _ rfl) _ Tryz.underlying2 rfl), ?_⟩; simp only [Act.put, List.setIfInBounds_toArray, List.set_cons_zero, List.set_cons_succ]; go_big_quiet_on)
    first | go_big_quiet_skip | (go_big_quiet_want; go_big_quiet_op; first | go_big_quiet_on | (refine ⟨_, fun _ _ => rfl, ?_⟩; go_big_quiet_on))
    first | go_big_quiet_skip | (go_big_quiet_want; refine ⟨.int .i64 pgn, fun W hW => (quietLoadOne 2 (.tmp 80) rfl R1 1 rfl _ (rowCells (HL2.out.get (.head _)) hW 1 _ rfl) _ Tryz.underlying2 rfl), ?_⟩; simp only [Act.put, List.setIfInBounds_toArray, List.set_cons_zero, List.set_cons_succ]; go_big_quiet_on)
    first | go_big_quiet_skip | (go_big_quiet_want; go_big_quiet_op; refine ⟨_, fun W hW => quietCall hW (l06Less_any y src pgn W), ?_⟩; go_big_quiet_on)
    iterate 2 (first | go_big_quiet_skip | (go_big_quiet_want; go_big_quiet_op; first | go_big_quiet_on | (refine ⟨_, fun _ _ => rfl, ?_⟩; go_big_quiet_on)))
    go_big_quiet_want; go_big_quiet_op; first | go_big_quiet_on | (refine ⟨_, fun _ _ => rfl, ?_⟩; go_big_quiet_on)
    refine wpQuiet_nil ?_
    intro X hX
    go_wp2_with fail
    go_ret
    exact ⟨by rw [HV.out]; rfl, hb.trans ((HL2.out.below.trans (hX.mono HL2.out.below.size)).mono hb.size)⟩
  ·have hge : N ≤ k := by omega
   have HV := Lib.hid (tabB_yes (l := l) (by have := HN.out; omega) (by rw [show l.length = k by have := HN.out; omega]; exact HU.out))
   clear hkn
   go_wp2_with fail
   go_ret
   exact ⟨by rw [HV.out]; rfl, hb⟩
set_option maxRecDepth 100000 in
set_option maxHeartbeats 8000000 in
theorem implTable_any (a : Option Addr) (cap : Nat) (l : List Se) (w : World) (h : RsIn seL 7 w a l) (hok : SesOk l) (hlen : l.length ≤ maxLen) :
  Calls Tryz.prog 129 #[.slice a l.length cap] w fun e w' => e = .returned (.bool (tabB l)) ∧ Below w.heap.size w w' := by
 unfold maxLen at hlen
 by_cases hbig : 4 < l.length
 ·have hd : decide ((4 : Int) < (l.length : Int)) = true := decide_eq_true (by omega)
  have HV := Lib.hid (tabB_long hbig)
  go_enter Tryz.func129, Tryz.ntmps129
  go_wp2_with fail
  go_ret
  exact ⟨by rw [HV.out]; rfl, Below.refl _ _⟩
 have hd : decide ((4 : Int) < (l.length : Int)) = false := decide_eq_false (by omega)
 have HI := Lib.hid h
 have HK := Lib.hid hok
 obtain ⟨N, hN⟩ : ∃ N, l.length = N := ⟨_, rfl⟩
 have HN := Lib.hid hN
 rw [hN] at hbig hd ⊢
 clear hlen h hok hN
 go_enter Tryz.func129, Tryz.ntmps129
 go_wp2_with fail
 go_loopw [3, 4, 10] (fun _ _ i wr => ∃ k : Nat, i = .int .i64 (k : Int) ∧ k ≤ N ∧ TabTo l k ∧ Below w.heap.size w wr) (fun _ _ i _ => N - (intOf i).toNat)
 case atStart => exact ⟨0, rfl, by omega, TabTo.zero l, Below.refl _ _⟩
 case round =>
  obtain ⟨k, rfl, hk, hup, hb⟩ := hrel
  have HU := Lib.hid hup
  clear hup
  by_cases hkn : k < N
  ·have hkl : k < l.length := by have := HN.out; omega
   have hi1 : (0 : Int) ≤ (k : Int) := by omega
   have hi2 : (k : Int) < (N : Int) := by omega
   obtain ⟨b, o, rfl, hlt, hc⟩ := HI.out.at (by omega)
   have lB : b < wr.heap.size := Nat.lt_of_lt_of_le hlt hb.size
   have HCs := Lib.hid (fun j v hv => (hb.cell (p := ⟨b, _, none⟩) hlt).trans (hc k _ (seAt_some hkl) j v hv))
   have HCp := Lib.hid (fun m (hm : k = m + 1) j v hv => (hb.cell (p := ⟨b, _, none⟩) hlt).trans (hc m _ (seAt_some (l := l) (i := m) (by omega)) j v hv))
   have HNo := Lib.hid (@tabB_no l k hkl)
   have HNx := Lib.hid (@TabTo.next l k HU.out)
   have HE := Lib.hid (show okAt l k = (seB (seAt l k) && (decide (k = 0) || lessB (seAt l (k - 1)) (seAt l k).src (seAt l k).pgn)) from rfl)
   have HSe := Lib.hid (seAt_ok HK.out hkl)
   clear hc
   generalize hx : seAt l k = x at *
   obtain ⟨src, pgn, sq, nx, sz, dt, ag⟩ := x
   unfold seL at HCs
   dsimp only at *
   go_wp2_with (first
    | (refine wpList_load_cells rfl 159 (.tmp 13) rfl b (o + k * 7) rfl [.int .i64 src, .int .i64 pgn, .int .i64 sq, .int .i64 nx, .int .i64 sz, .string dt, .int .i64 ag] HCs.out _ Tryz.underlying159 rfl (by kernel_rfl) ?_)
    | (refine wpList_alloc_h rfl 159 rfl (.agg #[.int .i64 0, .int .i64 0, .int .i64 0, .int .i64 0, .int .i64 0, .string ByteArray.empty, .int .i64 0]) (by kernel_rfl) #[.int .i64 0, .int .i64 0, .int .i64 0, .int .i64 0, .int .i64 0, .string ByteArray.empty, .int .i64 0] rfl ?_; intro w1 R1 e1 g1 b1; have HL1 := Lib.hid (show Lg wr w1 [(R1, (qA0), 159)] [] from (Lg.first wr).box e1 g1 b1); clear g1 b1 e1)
    | (refine wpList_put_at rfl 159 (.tmp 4) (.tmp 14) rfl rfl (R1) 0 rfl _ rfl #[.int .i64 src, .int .i64 pgn, .int .i64 sq, .int .i64 nx, .int .i64 sz, .string dt, .int .i64 ag] rfl 159 (qA0) (qA1 src pgn sq nx sz dt ag) (HL1.out.get (.head _)) (by kernel_rfl) (by kernel_rfl) (by kernel_rfl) (by kernel_rfl) ?_; intro w2 g2 o2; have HL2 := Lib.hid (show Lg wr w2 [(R1, (qA1 src pgn sq nx sz dt ag), 159)] [] from HL1.out.put 0 rfl g2 o2 (fun _ h => nomatch h) (fun _ h => nomatch h) rfl); clear g2 o2))
   have lY : b < w2.heap.size := Nat.lt_of_lt_of_le lB HL2.out.below.size
   rcases c0 : seB ⟨src, pgn, sq, nx, sz, dt, ag⟩
   ·have HV := Lib.hid (HNo.out (by rw [HE.out, c0]; rfl))
    clear HNo HNx HE HU HK HI
    obtain ⟨m, y, HY⟩ : ∃ (m : Nat) (y : Se), Hid (∀ (j : Nat) v, (seL y)[j]? = some v → w2.cell? ⟨b, o + m * 7 + j, none⟩ = some v) := ⟨k, ⟨src, pgn, sq, nx, sz, dt, ag⟩, Lib.hid (grownCells lB HCs.out HL2.out.below)⟩
    refine wp_region_quiet (C := fun W => Below w2.heap.size w2 W) (by kernel_rfl) (by kernel_rfl) (Below.refl _ _).drew ?_
    dsimp only
    go_big_quiet_want; refine ⟨.agg #[.int .i64 src, .int .i64 pgn, .int .i64 sq, .int .i64 nx, .int .i64 sz, .string dt, .int .i64 ag], fun W hW => (quietLoadCells 159 (.tmp 4) rfl R1 0 rfl (seL ⟨src, pgn, sq, nx, sz, dt, ag⟩) (fun j v hv => by rw [Nat.zero_add]; exact rowCells (HL2.out.get (.head _)) hW j v (by simpa [seL] using hv)) _ Tryz.underlying159 rfl (by kernel_rfl)), ?_⟩; simp only [Act.put, List.setIfInBounds_toArray, List.set_cons_zero, List.set_cons_succ]; go_big_quiet_on
    go_big_quiet_want; go_big_quiet_op; refine ⟨_, fun W hW => (by have := quietCall hW (sessionRight_any ⟨src, pgn, sq, nx, sz, dt, ag⟩ W HSe.out); rw [c0] at this; exact this), ?_⟩; go_big_quiet_on
    iterate 2 (go_big_quiet_want; go_big_quiet_op; first | go_big_quiet_on | (refine ⟨_, fun _ _ => rfl, ?_⟩; go_big_quiet_on))
    iterate 7 (first | go_big_quiet_skip | (go_big_quiet_want; go_big_quiet_op; first | go_big_quiet_on | (refine ⟨_, fun _ _ => rfl, ?_⟩; go_big_quiet_on)))
    first | go_big_quiet_skip | (go_big_quiet_want; refine ⟨.agg (seL y).toArray, fun W hW => (quietLoadCells 159 (.tmp 25) rfl b (o + m * 7) rfl (seL y) (grownCells lY HY.out hW) _ Tryz.underlying159 rfl (by kernel_rfl)), ?_⟩; simp only [Act.put, List.setIfInBounds_toArray, List.set_cons_zero, List.set_cons_succ]; go_big_quiet_on)
    first | go_big_quiet_skip | (go_big_quiet_want; refine ⟨.agg #[.int .i64 src, .int .i64 pgn, .int .i64 sq, .int .i64 nx, .int .i64 sz, .string dt, .int .i64 ag], fun W hW => (quietLoadCells 159 (.tmp 4) rfl R1 0 rfl (seL ⟨src, pgn, sq, nx, sz, dt, ag⟩) (fun j v hv => by rw [Nat.zero_add]; exact rowCells (HL2.out.get (.head _)) hW j v (by simpa [seL] using hv)) _ Tryz.underlying159 rfl (by kernel_rfl)), ?_⟩; simp only [Act.put, List.setIfInBounds_toArray, List.set_cons_zero, List.set_cons_succ]; go_big_quiet_on)
    first | go_big_quiet_skip | (go_big_quiet_want; go_big_quiet_op; refine ⟨_, fun W hW => quietCall hW (bySrc_any y ⟨src, pgn, sq, nx, sz, dt, ag⟩ W), ?_⟩; go_big_quiet_on)
    iterate 2 (first | go_big_quiet_skip | (go_big_quiet_want; go_big_quiet_op; first | go_big_quiet_on | (refine ⟨_, fun _ _ => rfl, ?_⟩; go_big_quiet_on)))
    go_big_quiet_want; go_big_quiet_op; first | go_big_quiet_on | (refine ⟨_, fun _ _ => rfl, ?_⟩; go_big_quiet_on)
    refine wpQuiet_nil ?_
    intro X hX
    go_wp2_with fail
    go_ret
    exact ⟨by rw [HV.out]; rfl, hb.trans ((HL2.out.below.trans (hX.mono HL2.out.below.size)).mono hb.size)⟩
   rcases k with _ | m
   ·have HT := Lib.hid (HNx.out (by rw [HE.out, c0]; simp))
    have e0 : decide ((0 : Int) < ((0 : Nat) : Int)) = false := rfl
    clear HNo HNx HE HU HK HI
    obtain ⟨m, y, HY⟩ : ∃ (m : Nat) (y : Se), Hid (∀ (j : Nat) v, (seL y)[j]? = some v → w2.cell? ⟨b, o + m * 7 + j, none⟩ = some v) := ⟨0, ⟨src, pgn, sq, nx, sz, dt, ag⟩, Lib.hid (grownCells lB HCs.out HL2.out.below)⟩
    refine wp_region_quiet (C := fun W => Below w2.heap.size w2 W) (by kernel_rfl) (by kernel_rfl) (Below.refl _ _).drew ?_
    dsimp only
    go_big_quiet_want; refine ⟨.agg #[.int .i64 src, .int .i64 pgn, .int .i64 sq, .int .i64 nx, .int .i64 sz, .string dt, .int .i64 ag], fun W hW => (quietLoadCells 159 (.tmp 4) rfl R1 0 rfl (seL ⟨src, pgn, sq, nx, sz, dt, ag⟩) (fun j v hv => by rw [Nat.zero_add]; exact rowCells (HL2.out.get (.head _)) hW j v (by simpa [seL] using hv)) _ Tryz.underlying159 rfl (by kernel_rfl)), ?_⟩; simp only [Act.put, List.setIfInBounds_toArray, List.set_cons_zero, List.set_cons_succ]; go_big_quiet_on
    go_big_quiet_want; go_big_quiet_op; refine ⟨_, fun W hW => (by have := quietCall hW (sessionRight_any ⟨src, pgn, sq, nx, sz, dt, ag⟩ W HSe.out); rw [c0] at this; exact this), ?_⟩; go_big_quiet_on
    iterate 2 (go_big_quiet_want; go_big_quiet_op; first | go_big_quiet_on | (refine ⟨_, fun _ _ => rfl, ?_⟩; go_big_quiet_on))
    iterate 7 (first | go_big_quiet_skip | (go_big_quiet_want; go_big_quiet_op; first | go_big_quiet_on | (refine ⟨_, fun _ _ => rfl, ?_⟩; go_big_quiet_on)))
    first | go_big_quiet_skip | (go_big_quiet_want; refine ⟨.agg (seL y).toArray, fun W hW => (quietLoadCells 159 (.tmp 25) rfl b (o + m * 7) rfl (seL y) (grownCells lY HY.out hW) _ Tryz.underlying159 rfl (by kernel_rfl)), ?_⟩; simp only [Act.put, List.setIfInBounds_toArray, List.set_cons_zero, List.set_cons_succ]; go_big_quiet_on)
    first | go_big_quiet_skip | (go_big_quiet_want; refine ⟨.agg #[.int .i64 src, .int .i64 pgn, .int .i64 sq, .int .i64 nx, .int .i64 sz, .string dt, .int .i64 ag], fun W hW => (quietLoadCells 159 (.tmp 4) rfl R1 0 rfl (seL ⟨src, pgn, sq, nx, sz, dt, ag⟩) (fun j v hv => by rw [Nat.zero_add]; exact rowCells (HL2.out.get (.head _)) hW j v (by simpa [seL] using hv)) _ Tryz.underlying159 rfl (by kernel_rfl)), ?_⟩; simp only [Act.put, List.setIfInBounds_toArray, List.set_cons_zero, List.set_cons_succ]; go_big_quiet_on)
    first | go_big_quiet_skip | (go_big_quiet_want; go_big_quiet_op; refine ⟨_, fun W hW => quietCall hW (bySrc_any y ⟨src, pgn, sq, nx, sz, dt, ag⟩ W), ?_⟩; go_big_quiet_on)
    iterate 2 (first | go_big_quiet_skip | (go_big_quiet_want; go_big_quiet_op; first | go_big_quiet_on | (refine ⟨_, fun _ _ => rfl, ?_⟩; go_big_quiet_on)))
    go_big_quiet_want; go_big_quiet_op; first | go_big_quiet_on | (refine ⟨_, fun _ _ => rfl, ?_⟩; go_big_quiet_on)
    refine wpQuiet_nil ?_
    intro X hX
    go_wp2_with fail
    go_roundw
    case rel => exact ⟨0 + 1, by go_num, by omega, HT.out, hb.trans ((HL2.out.below.trans (hX.mono HL2.out.below.size)).mono hb.size)⟩
    case measure => simp [intOf]; omega
   have e0 : decide ((0 : Int) < ((m + 1 : Nat) : Int)) = true := decide_eq_true (by omega)
   have e1 : IntKind.i64.wrap (((m + 1 : Nat) : Int) - 1) = (m : Int) := by rw [IntWalk.i64_in _ (by omega)]; omega
   have hm1 : (0 : Int) ≤ (m : Int) := by omega
   have hm2 : (m : Int) < (N : Int) := by omega
   have HY := Lib.hid (grownCells lB (HCp.out m rfl) HL2.out.below)
   rw [show m + 1 - 1 = m by omega] at HE
   generalize seAt l m = y at *
   have HB := fun W => Lib.hid (bySrc_any y ⟨src, pgn, sq, nx, sz, dt, ag⟩ W)
   have HD := Lib.hid (cmpS_neg y ⟨src, pgn, sq, nx, sz, dt, ag⟩)
   generalize cmpS y ⟨src, pgn, sq, nx, sz, dt, ag⟩ = D at *
   dsimp only at HD HE
   rcases c7 : lessB y src pgn
   ·have HV := Lib.hid (HNo.out (by rw [HE.out, c0, c7]; simp))
    have e2 : decide (0 ≤ D) = true := by rw [HD.out, c7]; rfl
    clear HNo HNx HE HU HK HI HD
    refine wp_region_quiet (C := fun W => Below w2.heap.size w2 W) (by kernel_rfl) (by kernel_rfl) (Below.refl _ _).drew ?_
    dsimp only
    go_big_quiet_want; refine ⟨.agg #[.int .i64 src, .int .i64 pgn, .int .i64 sq, .int .i64 nx, .int .i64 sz, .string dt, .int .i64 ag], fun W hW => (quietLoadCells 159 (.tmp 4) rfl R1 0 rfl (seL ⟨src, pgn, sq, nx, sz, dt, ag⟩) (fun j v hv => by rw [Nat.zero_add]; exact rowCells (HL2.out.get (.head _)) hW j v (by simpa [seL] using hv)) _ Tryz.underlying159 rfl (by kernel_rfl)), ?_⟩; simp only [Act.put, List.setIfInBounds_toArray, List.set_cons_zero, List.set_cons_succ]; go_big_quiet_on
    go_big_quiet_want; go_big_quiet_op; refine ⟨_, fun W hW => (by have := quietCall hW (sessionRight_any ⟨src, pgn, sq, nx, sz, dt, ag⟩ W HSe.out); rw [c0] at this; exact this), ?_⟩; go_big_quiet_on
    iterate 2 (go_big_quiet_want; go_big_quiet_op; first | go_big_quiet_on | (refine ⟨_, fun _ _ => rfl, ?_⟩; go_big_quiet_on))
    iterate 7 (first | go_big_quiet_skip | (go_big_quiet_want; go_big_quiet_op; first | go_big_quiet_on | (refine ⟨_, fun _ _ => rfl, ?_⟩; go_big_quiet_on)))
    first | go_big_quiet_skip | (go_big_quiet_want; refine ⟨.agg (seL y).toArray, fun W hW => (quietLoadCells 159 (.tmp 25) rfl b (o + m * 7) rfl (seL y) (grownCells lY HY.out hW) _ Tryz.underlying159 rfl (by kernel_rfl)), ?_⟩; simp only [Act.put, List.setIfInBounds_toArray, List.set_cons_zero, List.set_cons_succ]; go_big_quiet_on)
    first | go_big_quiet_skip | (go_big_quiet_want; refine ⟨.agg #[.int .i64 src, .int .i64 pgn, .int .i64 sq, .int .i64 nx, .int .i64 sz, .string dt, .int .i64 ag], fun W hW => (quietLoadCells 159 (.tmp 4) rfl R1 0 rfl (seL ⟨src, pgn, sq, nx, sz, dt, ag⟩) (fun j v hv => by rw [Nat.zero_add]; exact rowCells (HL2.out.get (.head _)) hW j v (by simpa [seL] using hv)) _ Tryz.underlying159 rfl (by kernel_rfl)), ?_⟩; simp only [Act.put, List.setIfInBounds_toArray, List.set_cons_zero, List.set_cons_succ]; go_big_quiet_on)
    first | go_big_quiet_skip | (go_big_quiet_want; go_big_quiet_op; refine ⟨_, fun W hW => quietCall hW (HB W).out, ?_⟩; go_big_quiet_on)
    iterate 2 (first | go_big_quiet_skip | (go_big_quiet_want; go_big_quiet_op; first | go_big_quiet_on | (refine ⟨_, fun _ _ => rfl, ?_⟩; go_big_quiet_on)))
    go_big_quiet_want; go_big_quiet_op; first | go_big_quiet_on | (refine ⟨_, fun _ _ => rfl, ?_⟩; go_big_quiet_on)
    refine wpQuiet_nil ?_
    intro X hX
    go_wp2_with fail
    go_ret
    exact ⟨by rw [HV.out]; rfl, hb.trans ((HL2.out.below.trans (hX.mono HL2.out.below.size)).mono hb.size)⟩
   ·have HT := Lib.hid (HNx.out (by rw [HE.out, c0, c7]; simp))
    have e2 : decide (0 ≤ D) = false := by rw [HD.out, c7]; rfl
    clear HNo HNx HE HU HK HI HD
    refine wp_region_quiet (C := fun W => Below w2.heap.size w2 W) (by kernel_rfl) (by kernel_rfl) (Below.refl _ _).drew ?_
    dsimp only
    go_big_quiet_want; refine ⟨.agg #[.int .i64 src, .int .i64 pgn, .int .i64 sq, .int .i64 nx, .int .i64 sz, .string dt, .int .i64 ag], fun W hW => (quietLoadCells 159 (.tmp 4) rfl R1 0 rfl (seL ⟨src, pgn, sq, nx, sz, dt, ag⟩) (fun j v hv => by rw [Nat.zero_add]; exact rowCells (HL2.out.get (.head _)) hW j v (by simpa [seL] using hv)) _ Tryz.underlying159 rfl (by kernel_rfl)), ?_⟩; simp only [Act.put, List.setIfInBounds_toArray, List.set_cons_zero, List.set_cons_succ]; go_big_quiet_on
    go_big_quiet_want; go_big_quiet_op; refine ⟨_, fun W hW => (by have := quietCall hW (sessionRight_any ⟨src, pgn, sq, nx, sz, dt, ag⟩ W HSe.out); rw [c0] at this; exact this), ?_⟩; go_big_quiet_on
    iterate 2 (go_big_quiet_want; go_big_quiet_op; first | go_big_quiet_on | (refine ⟨_, fun _ _ => rfl, ?_⟩; go_big_quiet_on))
    iterate 7 (first | go_big_quiet_skip | (go_big_quiet_want; go_big_quiet_op; first | go_big_quiet_on | (refine ⟨_, fun _ _ => rfl, ?_⟩; go_big_quiet_on)))
    first | go_big_quiet_skip | (go_big_quiet_want; refine ⟨.agg (seL y).toArray, fun W hW => (quietLoadCells 159 (.tmp 25) rfl b (o + m * 7) rfl (seL y) (grownCells lY HY.out hW) _ Tryz.underlying159 rfl (by kernel_rfl)), ?_⟩; simp only [Act.put, List.setIfInBounds_toArray, List.set_cons_zero, List.set_cons_succ]; go_big_quiet_on)
    first | go_big_quiet_skip | (go_big_quiet_want; refine ⟨.agg #[.int .i64 src, .int .i64 pgn, .int .i64 sq, .int .i64 nx, .int .i64 sz, .string dt, .int .i64 ag], fun W hW => (quietLoadCells 159 (.tmp 4) rfl R1 0 rfl (seL ⟨src, pgn, sq, nx, sz, dt, ag⟩) (fun j v hv => by rw [Nat.zero_add]; exact rowCells (HL2.out.get (.head _)) hW j v (by simpa [seL] using hv)) _ Tryz.underlying159 rfl (by kernel_rfl)), ?_⟩; simp only [Act.put, List.setIfInBounds_toArray, List.set_cons_zero, List.set_cons_succ]; go_big_quiet_on)
    first | go_big_quiet_skip | (go_big_quiet_want; go_big_quiet_op; refine ⟨_, fun W hW => quietCall hW (HB W).out, ?_⟩; go_big_quiet_on)
    iterate 2 (first | go_big_quiet_skip | (go_big_quiet_want; go_big_quiet_op; first | go_big_quiet_on | (refine ⟨_, fun _ _ => rfl, ?_⟩; go_big_quiet_on)))
    go_big_quiet_want; go_big_quiet_op; first | go_big_quiet_on | (refine ⟨_, fun _ _ => rfl, ?_⟩; go_big_quiet_on)
    refine wpQuiet_nil ?_
    intro X hX
    go_wp2_with fail
    go_roundw
    case rel => exact ⟨m + 1 + 1, by go_num, by omega, HT.out, hb.trans ((HL2.out.below.trans (hX.mono HL2.out.below.size)).mono hb.size)⟩
    case measure => simp [intOf]; omega
  ·have hge : N ≤ k := by omega
   have HV := Lib.hid (tabB_yes (l := l) (by have := HN.out; omega) (by rw [show l.length = k by have := HN.out; omega]; exact HU.out))
   clear hkn
   go_wp2_with fail
   go_ret
   exact ⟨by rw [HV.out]; rfl, hb⟩
end Go.Proofs.YtioldepgoodipaaGreat
namespace Go.Proofs.YtioldepgoodipaaGreat
open Go.RowKit
set_option linter.unusedVariables false

def szSe : List Se → Int → Int
 | [], m => m
 | x :: l, m => if m - x.dt.size < 0 then -1 else szSe l (m - x.dt.size)
set_option maxRecDepth 100000 in
theorem szSession_any (x : Se) (m : Int) (w : World) (h0 : 0 ≤ m) (h1 : m ≤ 1048576) (hx : x.dt.size ≤ maxLen) :
  Calls Tryz.prog 76 #[.agg (seL x).toArray, .int .i64 m] w fun e w' => e = .returned (.int .i64 (if m - x.dt.size < 0 then -1 else m - x.dt.size)) ∧ Below w.heap.size w w' := by
 obtain ⟨src, pgn, sq, nx, sz, dt, ag⟩ := x
 unfold seL
 dsimp only at *
 unfold maxLen at hx
 have hw : IntKind.i64.wrap (m - (dt.size : Int)) = m - dt.size := IntWalk.i64_in _ (by omega)
 by_cases hn : m - (dt.size : Int) < 0
 ·rw [if_pos hn]
  have hd : decide (m - (dt.size : Int) < 0) = true := decide_eq_true hn
  clear hn
  go_enter Tryz.func76, Tryz.ntmps76
  go_wp2
  go_ret
  exact ⟨rfl, (Below.refl _ _).alloc (Nat.le_refl _) _⟩
 ·rw [if_neg hn]
  have hd : decide (m - (dt.size : Int) < 0) = false := decide_eq_false hn
  clear hn
  go_enter Tryz.func76, Tryz.ntmps76
  go_wp2
  go_ret
  exact ⟨rfl, (Below.refl _ _).alloc (Nat.le_refl _) _⟩
set_option maxRecDepth 100000 in
set_option maxHeartbeats 4000000 in
theorem toSession_any (x : Se) (w : World) :
  Calls Tryz.prog 95 #[.agg (seL x).toArray] w fun e w' => e = .returned (.agg (seL x).toArray) ∧ Below w.heap.size w w' := by
 obtain ⟨src, pgn, sq, nx, sz, dt, ag⟩ := x
 unfold seL
 dsimp only
 go_enter Tryz.func95, Tryz.ntmps95
 go_wp2_with (first
  | (refine wpList_box_h rfl 135 (.tmp 0) rfl #[.int .i64 src, .int .i64 pgn, .int .i64 sq, .int .i64 nx, .int .i64 sz, .string dt, .int .i64 ag] rfl ?_; intro w1 R1 e1 g1 b1; have HL1 := Lib.hid (show Lg w w1 [(R1, (qA1 src pgn sq nx sz dt ag), 135)] [] from (Lg.first w).box e1 g1 b1); clear g1 b1 e1)
  | (refine wpList_alloc_h rfl 159 rfl (.agg #[.int .i64 0, .int .i64 0, .int .i64 0, .int .i64 0, .int .i64 0, .string ByteArray.empty, .int .i64 0]) (by kernel_rfl) #[.int .i64 0, .int .i64 0, .int .i64 0, .int .i64 0, .int .i64 0, .string ByteArray.empty, .int .i64 0] rfl ?_; intro w2 R2 e2 g2 b2; have qR2_R1 : R1 < R2 := Nat.lt_of_lt_of_eq (HL1.out.lt (.head _)) e2; have HL2 := Lib.hid (show Lg w w2 [(R2, (qA0), 159), (R1, (qA1 src pgn sq nx sz dt ag), 135)] [] from HL1.out.box e2 g2 b2); clear g2 b2 e2)
  | (refine wpList_alloc_h rfl 159 rfl (.agg #[.int .i64 0, .int .i64 0, .int .i64 0, .int .i64 0, .int .i64 0, .string ByteArray.empty, .int .i64 0]) (by kernel_rfl) #[.int .i64 0, .int .i64 0, .int .i64 0, .int .i64 0, .int .i64 0, .string ByteArray.empty, .int .i64 0] rfl ?_; intro w3 R3 e3 g3 b3; have qR3_R2 : R2 < R3 := Nat.lt_of_lt_of_eq (HL2.out.lt (.head _)) e3; have qR3_R1 : R1 < R3 := Nat.lt_of_lt_of_eq (HL2.out.lt (.tail _ (.head _))) e3; have HL3 := Lib.hid (show Lg w w3 [(R3, (qA0), 159), (R2, (qA0), 159), (R1, (qA1 src pgn sq nx sz dt ag), 135)] [] from HL2.out.box e3 g3 b3); clear g3 b3 e3)
  | (refine wpList_load_one rfl 2 (.tmp 4) rfl (R1) 0 rfl 135 (qA1 src pgn sq nx sz dt ag) (0, 0) (HL3.out.get qAm2) (.int .i64 src) rfl _ Tryz.underlying2 rfl (by kernel_rfl) ?_)
  | (refine wpList_put_at rfl 2 (.tmp 6) (.tmp 5) rfl rfl (R3) 0 rfl (.int .i64 src) rfl #[.int .i64 src] rfl 159 (qA0) (qA2 src) (HL3.out.get (.head _)) (by kernel_rfl) (by kernel_rfl) (by kernel_rfl) (by kernel_rfl) ?_; intro w4 g4 o4; have HL4 := Lib.hid (show Lg w w4 [(R3, (qA2 src), 159), (R2, (qA0), 159), (R1, (qA1 src pgn sq nx sz dt ag), 135)] [] from HL3.out.put 0 rfl g4 o4 (qAf ⟨Nat.ne_of_lt qR3_R2, (qAf ⟨Nat.ne_of_lt qR3_R1, (fun _ h => nomatch h)⟩)⟩) (fun _ h => nomatch h) rfl); clear g4 o4)
  | (refine wpList_load_one rfl 2 (.tmp 7) rfl (R1) 1 rfl 135 (qA1 src pgn sq nx sz dt ag) (0, 0) (HL4.out.get qAm2) (.int .i64 pgn) rfl _ Tryz.underlying2 rfl (by kernel_rfl) ?_)
  | (refine wpList_put_at rfl 2 (.tmp 9) (.tmp 8) rfl rfl (R3) 1 rfl (.int .i64 pgn) rfl #[.int .i64 pgn] rfl 159 (qA2 src) (qA3 src pgn) (HL4.out.get (.head _)) (by kernel_rfl) (by kernel_rfl) (by kernel_rfl) (by kernel_rfl) ?_; intro w5 g5 o5; have HL5 := Lib.hid (show Lg w w5 [(R3, (qA3 src pgn), 159), (R2, (qA0), 159), (R1, (qA1 src pgn sq nx sz dt ag), 135)] [] from HL4.out.put 0 rfl g5 o5 (qAf ⟨Nat.ne_of_lt qR3_R2, (qAf ⟨Nat.ne_of_lt qR3_R1, (fun _ h => nomatch h)⟩)⟩) (fun _ h => nomatch h) rfl); clear g5 o5)
  | (refine wpList_load_one rfl 2 (.tmp 10) rfl (R1) 2 rfl 135 (qA1 src pgn sq nx sz dt ag) (0, 0) (HL5.out.get qAm2) (.int .i64 sq) rfl _ Tryz.underlying2 rfl (by kernel_rfl) ?_)
  | (refine wpList_put_at rfl 2 (.tmp 12) (.tmp 11) rfl rfl (R3) 2 rfl (.int .i64 sq) rfl #[.int .i64 sq] rfl 159 (qA3 src pgn) (qA4 src pgn sq) (HL5.out.get (.head _)) (by kernel_rfl) (by kernel_rfl) (by kernel_rfl) (by kernel_rfl) ?_; intro w6 g6 o6; have HL6 := Lib.hid (show Lg w w6 [(R3, (qA4 src pgn sq), 159), (R2, (qA0), 159), (R1, (qA1 src pgn sq nx sz dt ag), 135)] [] from HL5.out.put 0 rfl g6 o6 (qAf ⟨Nat.ne_of_lt qR3_R2, (qAf ⟨Nat.ne_of_lt qR3_R1, (fun _ h => nomatch h)⟩)⟩) (fun _ h => nomatch h) rfl); clear g6 o6)
  | (refine wpList_load_one rfl 2 (.tmp 13) rfl (R1) 3 rfl 135 (qA1 src pgn sq nx sz dt ag) (0, 0) (HL6.out.get qAm2) (.int .i64 nx) rfl _ Tryz.underlying2 rfl (by kernel_rfl) ?_)
  | (refine wpList_put_at rfl 2 (.tmp 15) (.tmp 14) rfl rfl (R3) 3 rfl (.int .i64 nx) rfl #[.int .i64 nx] rfl 159 (qA4 src pgn sq) (qA5 src pgn sq nx) (HL6.out.get (.head _)) (by kernel_rfl) (by kernel_rfl) (by kernel_rfl) (by kernel_rfl) ?_; intro w7 g7 o7; have HL7 := Lib.hid (show Lg w w7 [(R3, (qA5 src pgn sq nx), 159), (R2, (qA0), 159), (R1, (qA1 src pgn sq nx sz dt ag), 135)] [] from HL6.out.put 0 rfl g7 o7 (qAf ⟨Nat.ne_of_lt qR3_R2, (qAf ⟨Nat.ne_of_lt qR3_R1, (fun _ h => nomatch h)⟩)⟩) (fun _ h => nomatch h) rfl); clear g7 o7)
  | (refine wpList_load_one rfl 2 (.tmp 16) rfl (R1) 4 rfl 135 (qA1 src pgn sq nx sz dt ag) (0, 0) (HL7.out.get qAm2) (.int .i64 sz) rfl _ Tryz.underlying2 rfl (by kernel_rfl) ?_)
  | (refine wpList_put_at rfl 2 (.tmp 18) (.tmp 17) rfl rfl (R3) 4 rfl (.int .i64 sz) rfl #[.int .i64 sz] rfl 159 (qA5 src pgn sq nx) (qA6 src pgn sq nx sz) (HL7.out.get (.head _)) (by kernel_rfl) (by kernel_rfl) (by kernel_rfl) (by kernel_rfl) ?_; intro w8 g8 o8; have HL8 := Lib.hid (show Lg w w8 [(R3, (qA6 src pgn sq nx sz), 159), (R2, (qA0), 159), (R1, (qA1 src pgn sq nx sz dt ag), 135)] [] from HL7.out.put 0 rfl g8 o8 (qAf ⟨Nat.ne_of_lt qR3_R2, (qAf ⟨Nat.ne_of_lt qR3_R1, (fun _ h => nomatch h)⟩)⟩) (fun _ h => nomatch h) rfl); clear g8 o8)
  | (refine wpList_load_one rfl 9 (.tmp 19) rfl (R1) 5 rfl 135 (qA1 src pgn sq nx sz dt ag) (0, 0) (HL8.out.get qAm2) (.string dt) rfl _ Tryz.underlying9 rfl (by kernel_rfl) ?_)
  | (refine wpList_put_at rfl 9 (.tmp 21) (.tmp 20) rfl rfl (R3) 5 rfl (.string dt) rfl #[.string dt] rfl 159 (qA6 src pgn sq nx sz) #[.int .i64 src, .int .i64 pgn, .int .i64 sq, .int .i64 nx, .int .i64 sz, .string dt, .int .i64 0] (HL8.out.get (.head _)) (by kernel_rfl) (by kernel_rfl) (by kernel_rfl) (by kernel_rfl) ?_; intro w9 g9 o9; have HL9 := Lib.hid (show Lg w w9 [(R3, #[.int .i64 src, .int .i64 pgn, .int .i64 sq, .int .i64 nx, .int .i64 sz, .string dt, .int .i64 0], 159), (R2, (qA0), 159), (R1, (qA1 src pgn sq nx sz dt ag), 135)] [] from HL8.out.put 0 rfl g9 o9 (qAf ⟨Nat.ne_of_lt qR3_R2, (qAf ⟨Nat.ne_of_lt qR3_R1, (fun _ h => nomatch h)⟩)⟩) (fun _ h => nomatch h) rfl); clear g9 o9)
  | (refine wpList_load_one rfl 2 (.tmp 22) rfl (R1) 6 rfl 135 (qA1 src pgn sq nx sz dt ag) (0, 0) (HL9.out.get qAm2) (.int .i64 ag) rfl _ Tryz.underlying2 rfl (by kernel_rfl) ?_)
  | (refine wpList_put_at rfl 2 (.tmp 24) (.tmp 23) rfl rfl (R3) 6 rfl (.int .i64 ag) rfl #[.int .i64 ag] rfl 159 #[.int .i64 src, .int .i64 pgn, .int .i64 sq, .int .i64 nx, .int .i64 sz, .string dt, .int .i64 0] (qA1 src pgn sq nx sz dt ag) (HL9.out.get (.head _)) (by kernel_rfl) (by kernel_rfl) (by kernel_rfl) (by kernel_rfl) ?_; intro w10 g10 o10; have HL10 := Lib.hid (show Lg w w10 [(R3, (qA1 src pgn sq nx sz dt ag), 159), (R2, (qA0), 159), (R1, (qA1 src pgn sq nx sz dt ag), 135)] [] from HL9.out.put 0 rfl g10 o10 (qAf ⟨Nat.ne_of_lt qR3_R2, (qAf ⟨Nat.ne_of_lt qR3_R1, (fun _ h => nomatch h)⟩)⟩) (fun _ h => nomatch h) rfl); clear g10 o10)
  | (refine wpList_load_at rfl 159 (.tmp 3) rfl (R3) 0 rfl 159 (qA1 src pgn sq nx sz dt ag) (0, 0) (HL10.out.get (.head _)) [.int .i64 src, .int .i64 pgn, .int .i64 sq, .int .i64 nx, .int .i64 sz, .string dt, .int .i64 ag] rfl _ Tryz.underlying159 rfl (by kernel_rfl) ?_)
  | (refine wpList_put_at rfl 159 (.tmp 2) (.tmp 25) rfl rfl (R2) 0 rfl _ rfl #[.int .i64 src, .int .i64 pgn, .int .i64 sq, .int .i64 nx, .int .i64 sz, .string dt, .int .i64 ag] rfl 159 (qA0) (qA1 src pgn sq nx sz dt ag) (HL10.out.get (.tail _ (.head _))) (by kernel_rfl) (by kernel_rfl) (by kernel_rfl) (by kernel_rfl) ?_; intro w11 g11 o11; have HL11 := Lib.hid (show Lg w w11 [(R3, (qA1 src pgn sq nx sz dt ag), 159), (R2, (qA1 src pgn sq nx sz dt ag), 159), (R1, (qA1 src pgn sq nx sz dt ag), 135)] [] from HL10.out.put 1 rfl g11 o11 (qAf ⟨Nat.ne_of_gt qR3_R2, (qAf ⟨Nat.ne_of_lt qR2_R1, (fun _ h => nomatch h)⟩)⟩) (fun _ h => nomatch h) rfl); clear g11 o11))
 exact bodyPost_ret (results_cell_row (p := 2) (ty := 159) (by kernel_rfl) _ _ (R2) 159 _ (0, 0) _ rfl (HL11.out.get (.tail _ (.head _))) Tryz.underlying159 rfl (by kernel_rfl)) rfl ⟨rfl, HL11.out.below⟩
set_option maxRecDepth 100000 in
set_option maxHeartbeats 2000000 in
theorem eqSession_same (x : Se) (w : World) :
  Calls Tryz.prog 110 #[.agg (seL x).toArray, .agg (seL x).toArray] w fun e w' => e = .returned (.bool true) ∧ Below w.heap.size w w' := by
 obtain ⟨src, pgn, sq, nx, sz, dt, ag⟩ := x
 unfold seL
 dsimp only
 go_enter Tryz.func110, Tryz.ntmps110
 go_wp2
 go_ret
 exact ⟨rfl, ((Below.refl _ _).alloc (Nat.le_refl _) _).alloc (by simp) _⟩
theorem SesTo.info : (Tryz.prog.info? 159).map (fun i => (i.zero, i.size, i.bytes)) = some (some (.agg #[.int .i64 0, .int .i64 0, .int .i64 0, .int .i64 0, .int .i64 0, .string ByteArray.empty, .int .i64 0]), 7, 64) := by kernel_rfl
set_option maxRecDepth 100000 in
set_option maxHeartbeats 2000000 in
theorem toSessionS_new (a : Option Addr) (cap : Nat) (l : List Se) (w : World) (h : RsIn seL 7 w a l) (hlen : l.length ≤ 1048576) :
  Calls Tryz.prog 41 #[.slice a l.length cap] w fun e w' => e = .returned (.slice (some ⟨w.heap.size, 0, none⟩) l.length l.length) ∧ RsNew seL 7 159 w.heap.size w'.heap.size w' (some ⟨w.heap.size, 0, none⟩) l ∧ Below w.heap.size w w' := by
 obtain ⟨i0, hi, hz0, hz1, hz2⟩ := info_parts SesTo.info
 obtain ⟨N, hN⟩ : ∃ N, l.length = N := ⟨_, rfl⟩
 have HN := Lib.hid hN
 have HH := Lib.hid h
 rw [hN] at hlen ⊢
 clear hN h
 go_enter Tryz.func41, Tryz.ntmps41
 go_wp2_with (at_make; refine wpList_make_full _ rfl (.tmp 6) (.tmp 6) 44 rfl w.heap.size 159 i0 (.agg #[.int .i64 0, .int .i64 0, .int .i64 0, .int .i64 0, .int .i64 0, .string ByteArray.empty, .int .i64 0]) 7 Tryz.underlying44 hi hz0 hz1 .i64 .i64 (N : Int) (N : Int) N (by rfl) (by rfl) (by omega) (by omega) (by rw [hz2]; omega) (by unfold maxLen; omega) (Nat.le_refl _) ?_; intro w1 hown hgrow)
 have hb1 : Below w.heap.size w w1 := (Below.refl _ _).grown hgrow (Nat.le_refl _) (fun _ h => by cases h)
 rcases Nat.eq_zero_or_pos N with hN0 | hN0
 ·subst hN0
  have hl : l = [] := List.eq_nil_of_length_eq_zero HN.out
  clear hown hgrow
  refine wp_loop_rounds 1 ?_
  rw [rounds_succ]; go_wp2
  go_ret
  exact ⟨rfl, .inl (by first | exact hl | rfl), hb1⟩
 obtain ⟨row0, hg0, hs0⟩ : ∃ row0, w1.heap[w.heap.size]? = some (.cells row0 159 (0, 0)) ∧ row0.size = N * 7 := by
  rcases hown.2 with ⟨h', _⟩ | ⟨g', cap', cur, h', _, hg, _, _, hc, _⟩
  ·simp at h'
  ·simp only [Value.slice.injEq, Option.some.injEq, Addr.mk.injEq, and_true, true_and] at h'
   obtain ⟨rfl, rfl⟩ := h'
   exact ⟨cur, hg, hc⟩
 have HG0 := Lib.hid hg0
 have HS0 := Lib.hid hs0
 clear hown hgrow hg0 hs0
 obtain ⟨b, o, rfl, hlt, hc⟩ := HH.out.at (by have := HN.out; omega)
 have HI := Lib.hid hc
 clear hc HH
 go_loopw [4] (fun i wr => ∃ (k : Nat) (row : Array Value), i = .int .i64 (k : Int) ∧ k ≤ N ∧ Below w.heap.size w wr ∧ wr.heap[w.heap.size]? = some (.cells row 159 (0, 0)) ∧ row.size = N * 7 ∧
  (∀ j, j < k → ∀ c v, (seL (seAt l j))[c]? = some v → row[j * 7 + c]? = some v)) (fun i _ => N - (intOf i).toNat)
 case atStart => exact ⟨0, row0, rfl, by omega, hb1, HG0.out, HS0.out, fun j hj => absurd hj (by omega)⟩
 case round =>
  obtain ⟨k, row, rfl, hk, hb, hgr, hrs, hdone⟩ := hrel
  have HD := Lib.hid hdone
  have HR := Lib.hid hgr
  have HRs := Lib.hid hrs
  have hsz : w.heap.size < wr.heap.size := (Array.getElem?_eq_some_iff.1 hgr).1
  clear hdone hgr hrs
  by_cases hkn : k < N
  ·have hkl : k < l.length := by have := HN.out; omega
   have hi1 : (0 : Int) ≤ (k : Int) := by omega
   have hi2 : (k : Int) < (N : Int) := by omega
   have HCs := Lib.hid (fun j v hv => (hb.cell (p := ⟨b, _, none⟩) hlt).trans (HI.out k _ (seAt_some hkl) j v hv))
   go_wp2_with (refine wpList_load_cells rfl 135 (.tmp 18) rfl b (o + k * 7) rfl (seL (seAt l k)) HCs.out _ Tryz.underlying135 rfl (by kernel_rfl) ?_)
   refine (toSession_any _ _).mono ?_
   rintro e w2 ⟨rfl, h2⟩
   have hg2 := (h2.block _ hsz).trans HR.out
   have HG2 := Lib.hid hg2
   clear hg2
   go_wp2_with (refine wpList_put_at rfl 159 (.tmp 21) (.tmp 20) rfl rfl (w.heap.size) (k * 7) rfl (.agg (seL (seAt l k)).toArray) rfl (seL (seAt l k)).toArray rfl 159 row _ HG2.out (by kernel_rfl) (Nat.ble_eq_true_of_le (by show k * 7 + 7 ≤ row.size; rw [HRs.out]; omega)) (by rfl) rfl ?_; intro w3 g3 o3; have HG3 := Lib.hid g3; have HO3 := Lib.hid o3; clear g3 o3)
   go_roundw
   case rel =>
    refine ⟨k + 1, _, by go_num, by omega, ?_, HG3.out, by rw [setAll_size, HRs.out], fun j hj c v hv => ?_⟩
    ·exact HO3.out.below (hb.trans (h2.mono (Nat.le_of_lt hsz))) (Nat.le_refl _) (Nat.le_trans (Nat.le_of_lt hsz) h2.size)
    ·have hc7 : c < 7 := by
      have := (List.getElem?_eq_some_iff.1 hv).1
      rwa [seL_len] at this
     rcases Nat.lt_or_ge j k with h | h
     ·rw [setAll_off _ _ _ _ (.inl (by omega))]
      exact HD.out j h c v hv
     ·obtain rfl : j = k := by omega
      exact setAll_at _ _ _ _ _ (by show j * 7 + 7 ≤ row.size; rw [HRs.out]; omega) hv
   case measure => simp [intOf]; omega
  ·have hge : N ≤ k := by omega
   go_wp2_with fail
   go_ret
   exact ⟨rfl, .inr ⟨w.heap.size, 0, row, rfl, Nat.le_refl _, hsz, HR.out, by rw [HRs.out, HN.out]; omega, fun i x hx c v hv => by
    have hi : i < l.length := (List.getElem?_eq_some_iff.1 hx).1
    rw [seAt_some hi] at hx
    obtain rfl := Option.some.inj hx
    rw [Nat.zero_add]
    exact HD.out i (by have := HN.out; omega) c v hv⟩, hb⟩
set_option maxRecDepth 100000 in
set_option maxHeartbeats 2000000 in
theorem eqSessionS_same (a a' : Option Addr) (cap cap' : Nat) (l : List Se) (w : World) (h : RsIn seL 7 w a l) (h' : RsIn seL 7 w a' l) (hlen : l.length ≤ 1048576) :
  Calls Tryz.prog 53 #[.slice a l.length cap, .slice a' l.length cap'] w fun e w' => e = .returned (.bool true) ∧ Below w.heap.size w w' := by
 obtain ⟨N, hN⟩ : ∃ N, l.length = N := ⟨_, rfl⟩
 have HN := Lib.hid hN
 have HI := Lib.hid h
 have HI' := Lib.hid h'
 rw [hN] at hlen ⊢
 clear hN h h'
 go_enter Tryz.func53, Tryz.ntmps53
 go_wp2_with fail
 go_loopw [5] (fun i wr => ∃ k : Nat, i = .int .i64 (k : Int) ∧ k ≤ N ∧ Below w.heap.size w wr) (fun i _ => N - (intOf i).toNat)
 case atStart => exact ⟨0, rfl, by omega, Below.refl _ _⟩
 case round =>
  obtain ⟨k, rfl, hk, hb⟩ := hrel
  by_cases hkn : k < N
  ·have hkl : k < l.length := by have := HN.out; omega
   have hi1 : (0 : Int) ≤ (k : Int) := by omega
   have hi2 : (k : Int) < (N : Int) := by omega
   obtain ⟨b, o, rfl, hlt, hc⟩ := HI.out.at (by omega)
   obtain ⟨b', o', rfl, hlt', hc'⟩ := HI'.out.at (by omega)
   have lB : b < wr.heap.size := Nat.lt_of_lt_of_le hlt hb.size
   have lB' : b' < wr.heap.size := Nat.lt_of_lt_of_le hlt' hb.size
   have HC := Lib.hid (fun j v hv => (hb.cell (p := ⟨b, _, none⟩) hlt).trans (hc k _ (seAt_some hkl) j v hv))
   have HC' := Lib.hid (fun j v hv => (hb.cell (p := ⟨b', _, none⟩) hlt').trans (hc' k _ (seAt_some hkl) j v hv))
   clear hc hc'
   generalize seAt l k = x at *
   go_wp2_with fail
   refine wp_region_quiet (C := fun W => Below wr.heap.size wr W) (by kernel_rfl) (by kernel_rfl) (Below.refl _ _).drew ?_
   dsimp only
   iterate 3 (go_big_quiet_want; go_big_quiet_op; first | go_big_quiet_on | (refine ⟨_, fun _ _ => rfl, ?_⟩; go_big_quiet_on))
   go_big_quiet_want; refine ⟨.agg (seL x).toArray, fun W hW => (quietLoadCells 159 (.tmp 19) rfl b (o + k * 7) rfl (seL x) (grownCells lB HC.out hW) _ Tryz.underlying159 rfl (by kernel_rfl)), ?_⟩; simp only [Act.put, List.setIfInBounds_toArray, List.set_cons_zero, List.set_cons_succ]; go_big_quiet_on
   iterate 3 (go_big_quiet_want; go_big_quiet_op; first | go_big_quiet_on | (refine ⟨_, fun _ _ => rfl, ?_⟩; go_big_quiet_on))
   go_big_quiet_want; refine ⟨.agg (seL x).toArray, fun W hW => (quietLoadCells 159 (.tmp 23) rfl b' (o' + k * 7) rfl (seL x) (grownCells lB' HC'.out hW) _ Tryz.underlying159 rfl (by kernel_rfl)), ?_⟩; simp only [Act.put, List.setIfInBounds_toArray, List.set_cons_zero, List.set_cons_succ]; go_big_quiet_on
   go_big_quiet_want; go_big_quiet_op; refine ⟨_, fun W hW => quietCall hW (eqSession_same x W), ?_⟩; go_big_quiet_on
   go_big_quiet_want; go_big_quiet_op; first | go_big_quiet_on | (refine ⟨_, fun _ _ => rfl, ?_⟩; go_big_quiet_on)
   refine wpQuiet_nil ?_
   intro X hX
   go_wp2_with fail
   go_roundw
   case rel => exact ⟨k + 1, by go_num, by omega, hb.trans (hX.mono hb.size)⟩
   case measure => simp [intOf]; omega
  ·go_wp2_with fail
   go_ret
   exact ⟨rfl, hb⟩
end Go.Proofs.YtioldepgoodipaaGreat
namespace Go.Proofs.YtioldepgoodipaaGreat
open Go.RowKit
set_option linter.unusedVariables false

def idV (a b d s : Int) : Value := .agg #[.int .i64 a, .int .i64 b, .int .i64 d, .int .i64 s]
def idB (a b d s : Int) : Bool := inB 0 7 a && inB 0 255 s && inB 0 131071 b && (if wideB b = true then d == 255 else decide (b % 256 = 0) && inB 0 255 d)
def idN (a b d s : Int) : Int := if idB a b d s = true then 67108864 * a + 256 * (if wideB b = true then b else b + d) + s else -1

theorem broadB_of {p : Int} (h : inB 0 131071 p = true) : broadB p = wideB p := by simp [broadB, h]

set_option maxHeartbeats 1000000 in
theorem specIdRight_any (a b d s : Int) (w : World) :
  Calls Tryz.prog 219 #[idV a b d s] w fun e w' => e = .returned (.bool (idB a b d s)) ∧ Below w.heap.size w w' := by
 unfold idV
 rcases h1 : inB 0 7 a
 ·go_enter Tryz.func219, Tryz.ntmps219
  go_wp2_with (go_at_call 82; refine (l02Is_any _ _ _ _).mono ?_; first | rw [h1]; rintro e w' ⟨rfl, rfl⟩)
  go_ret
  exact ⟨by simp [idB, h1], (Below.refl _ _).alloc (Nat.le_refl _) _⟩
 rcases h2 : inB 0 255 s
 ·go_enter Tryz.func219, Tryz.ntmps219
  go_wp2_with (go_at_call 82; refine (l02Is_any _ _ _ _).mono ?_; (first | rw [h1] | rw [h2]); rintro e w' ⟨rfl, rfl⟩)
  go_ret
  exact ⟨by simp [idB, h1, h2], (Below.refl _ _).alloc (Nat.le_refl _) _⟩
 rcases h3 : inB 0 131071 b
 ·go_enter Tryz.func219, Tryz.ntmps219
  go_wp2_with (first | (go_at_call 82; refine (l02Is_any _ _ _ _).mono ?_; (first | rw [h1] | rw [h2]); rintro e w' ⟨rfl, rfl⟩) | (go_at_call 154; refine (l02Pgn_any _ _).mono ?_; rw [h3]; rintro e w' ⟨rfl, rfl⟩))
  go_ret
  exact ⟨by simp [idB, h1, h2, h3], (Below.refl _ _).alloc (Nat.le_refl _) _⟩
 have hb := inB_of h3
 rcases h4 : wideB b
 ·by_cases h5 : b % 256 = 0
  ·have hd : (b % 256 == 0) = true := by simpa using h5
   go_enter Tryz.func219, Tryz.ntmps219
   go_wp2_with (first | (go_at_call 82; refine (l02Is_any _ _ _ _).mono ?_; (try (first | rw [h1] | rw [h2])); rintro e w' ⟨rfl, rfl⟩) | (go_at_call 154; refine (l02Pgn_any _ _).mono ?_; rw [h3]; rintro e w' ⟨rfl, rfl⟩) | (go_at_call 86; refine (l02Broad_any _ _ (by omega) (by omega)).mono ?_; rw [h4]; rintro e w' ⟨rfl, rfl⟩))
   go_ret
   exact ⟨by simp [idB, h1, h2, h3, h4, h5], (Below.refl _ _).alloc (Nat.le_refl _) _⟩
  ·have hd : (b % 256 == 0) = false := by simpa using h5
   go_enter Tryz.func219, Tryz.ntmps219
   go_wp2_with (first | (go_at_call 82; refine (l02Is_any _ _ _ _).mono ?_; (try (first | rw [h1] | rw [h2])); rintro e w' ⟨rfl, rfl⟩) | (go_at_call 154; refine (l02Pgn_any _ _).mono ?_; rw [h3]; rintro e w' ⟨rfl, rfl⟩) | (go_at_call 86; refine (l02Broad_any _ _ (by omega) (by omega)).mono ?_; rw [h4]; rintro e w' ⟨rfl, rfl⟩))
   go_ret
   exact ⟨by simp [idB, h1, h2, h3, h4, h5], (Below.refl _ _).alloc (Nat.le_refl _) _⟩
 ·go_enter Tryz.func219, Tryz.ntmps219
  go_wp2_with (first | (go_at_call 82; refine (l02Is_any _ _ _ _).mono ?_; (first | rw [h1] | rw [h2]); rintro e w' ⟨rfl, rfl⟩) | (go_at_call 154; refine (l02Pgn_any _ _).mono ?_; rw [h3]; rintro e w' ⟨rfl, rfl⟩) | (go_at_call 86; refine (l02Broad_any _ _ (by omega) (by omega)).mono ?_; rw [h4]; rintro e w' ⟨rfl, rfl⟩))
  go_ret
  exact ⟨by simp [idB, h1, h2, h3, h4], (Below.refl _ _).alloc (Nat.le_refl _) _⟩

set_option maxHeartbeats 1000000 in
theorem implIdRight_any (a b d s : Int) (w : World) :
  Calls Tryz.prog 195 #[idV a b d s] w fun e w' => e = .returned (.bool (idB a b d s)) ∧ Below w.heap.size w w' := by
 unfold idV
 rcases h1 : inB 0 7 a
 ·go_enter Tryz.func195, Tryz.ntmps195
  go_wp2_with (go_at_call 131; refine (from0_any _ _ _).mono ?_; rw [h1]; rintro e w' ⟨rfl, rfl⟩)
  go_ret
  exact ⟨by simp [idB, h1], (Below.refl _ _).alloc (Nat.le_refl _) _⟩
 rcases h2 : inB 0 255 s
 ·go_enter Tryz.func195, Tryz.ntmps195
  go_wp2_with (go_at_call 131; refine (from0_any _ _ _).mono ?_; (first | rw [h1] | rw [h2]); rintro e w' ⟨rfl, rfl⟩)
  go_ret
  exact ⟨by simp [idB, h1, h2], (Below.refl _ _).alloc (Nat.le_refl _) _⟩
 rcases h3 : inB 0 131071 b
 ·go_enter Tryz.func195, Tryz.ntmps195
  go_wp2_with (go_at_call 131; refine (from0_any _ _ _).mono ?_; (first | rw [h1] | rw [h2] | rw [h3]); rintro e w' ⟨rfl, rfl⟩)
  go_ret
  exact ⟨by simp [idB, h1, h2, h3], (Below.refl _ _).alloc (Nat.le_refl _) _⟩
 have hb := inB_of h3
 have hbr := broadB_of h3
 rcases h4 : wideB b
 ·by_cases h5 : b % 256 = 0
  ·have hd : (b % 256 == 0) = true := by simpa using h5
   go_enter Tryz.func195, Tryz.ntmps195
   go_wp2_with (first | (go_at_call 131; refine (from0_any _ _ _).mono ?_; (try (first | rw [h1] | rw [h2] | rw [h3])); rintro e w' ⟨rfl, rfl⟩) | (go_at_call 210; refine (implBroad_any _ _).mono ?_; rw [hbr, h4]; rintro e w' ⟨rfl, rfl⟩))
   go_ret
   exact ⟨by simp [idB, h1, h2, h3, h4, h5], (Below.refl _ _).alloc (Nat.le_refl _) _⟩
  ·have hd : (b % 256 == 0) = false := by simpa using h5
   go_enter Tryz.func195, Tryz.ntmps195
   go_wp2_with (first | (go_at_call 131; refine (from0_any _ _ _).mono ?_; (try (first | rw [h1] | rw [h2] | rw [h3])); rintro e w' ⟨rfl, rfl⟩) | (go_at_call 210; refine (implBroad_any _ _).mono ?_; rw [hbr, h4]; rintro e w' ⟨rfl, rfl⟩))
   go_ret
   exact ⟨by simp [idB, h1, h2, h3, h4, h5], (Below.refl _ _).alloc (Nat.le_refl _) _⟩
 ·go_enter Tryz.func195, Tryz.ntmps195
  go_wp2_with (first | (go_at_call 131; refine (from0_any _ _ _).mono ?_; (first | rw [h1] | rw [h2] | rw [h3]); rintro e w' ⟨rfl, rfl⟩) | (go_at_call 210; refine (implBroad_any _ _).mono ?_; rw [hbr, h4]; rintro e w' ⟨rfl, rfl⟩))
  go_ret
  exact ⟨by simp [idB, h1, h2, h3, h4], (Below.refl _ _).alloc (Nat.le_refl _) _⟩

theorem idB_of {a b d s : Int} (h : idB a b d s = true) : (0 ≤ a ∧ a ≤ 7) ∧ (0 ≤ s ∧ s ≤ 255) ∧ (0 ≤ b ∧ b ≤ 131071) ∧ ((wideB b = true ∧ d = 255) ∨ (wideB b = false ∧ b % 256 = 0 ∧ 0 ≤ d ∧ d ≤ 255)) := by
 unfold idB at h
 rcases h4 : wideB b <;> simp [h4] at h
 ·exact ⟨inB_of h.1.1.1, inB_of h.1.1.2, inB_of h.1.2, .inr ⟨rfl, h.2.1, inB_of h.2.2⟩⟩
 ·exact ⟨inB_of h.1.1.1, inB_of h.1.1.2, inB_of h.1.2, .inl ⟨rfl, h.2⟩⟩
theorem idB_to {a b d s : Int} (h1 : 0 ≤ a ∧ a ≤ 7) (h2 : 0 ≤ s ∧ s ≤ 255) (h3 : 0 ≤ b ∧ b ≤ 131071) (h : (wideB b = true ∧ d = 255) ∨ (wideB b = false ∧ b % 256 = 0 ∧ 0 ≤ d ∧ d ≤ 255)) : idB a b d s = true := by
 unfold idB
 rcases h with ⟨h4, h5⟩ | ⟨h4, h5, h6, h7⟩ <;> simp [inB_yes, *]

set_option maxHeartbeats 400000 in
theorem l02Num_any (a b d s : Int) (w : World) (h : idB a b d s = true) :
  Calls Tryz.prog 34 #[idV a b d s] w fun e w' => e = .returned (.int .i64 (idN a b d s)) ∧ Below w.heap.size w w' := by
 obtain ⟨h1, h2, h3, h4⟩ := idB_of h
 unfold idV
 rcases h4 with ⟨h4, rfl⟩ | ⟨h4, h5, h6⟩
 ·have HO := Lib.hid (show idN a b 255 s = 67108864 * a + 256 * b + s by simp [idN, h, h4])
  clear h
  go_enter Tryz.func34, Tryz.ntmps34
  go_wp2_with (go_at_call 86; refine (l02Broad_any _ _ (by omega) (by omega)).mono ?_; rw [h4]; rintro e w' ⟨rfl, rfl⟩)
  go_ret
  exact ⟨by rw [HO.out]; rfl, (Below.refl _ _).alloc (Nat.le_refl _) _⟩
 ·have HO := Lib.hid (show idN a b d s = 67108864 * a + 256 * (b + d) + s by simp [idN, h, h4])
  clear h h5
  go_enter Tryz.func34, Tryz.ntmps34
  go_wp2_with (go_at_call 86; refine (l02Broad_any _ _ (by omega) (by omega)).mono ?_; rw [h4]; rintro e w' ⟨rfl, rfl⟩)
  go_ret
  exact ⟨by rw [HO.out]; rfl, (Below.refl _ _).alloc (Nat.le_refl _) _⟩

set_option maxHeartbeats 400000 in
theorem specIdNum_any (a b d s : Int) (w : World) :
  Calls Tryz.prog 176 #[idV a b d s] w fun e w' => e = .returned (.int .i64 (idN a b d s)) ∧ Below w.heap.size w w' := by
 rcases h : idB a b d s
 ·have HO := Lib.hid (show idN a b d s = -1 by simp [idN, h])
  have HR := fun W => Lib.hid (specIdRight_any a b d s W)
  rw [h] at HR
  clear h
  unfold idV at *
  go_enter Tryz.func176, Tryz.ntmps176
  go_wp2_with (go_at_call 219; refine (HR _).out.mono ?_; rintro e w' ⟨rfl, hb⟩)
  go_ret
  exact ⟨by rw [HO.out]; rfl, ((Below.refl _ _).alloc (Nat.le_refl _) _).trans (hb.mono (by simp))⟩
 ·have HR := fun W => Lib.hid (specIdRight_any a b d s W)
  have HN := fun W => Lib.hid (l02Num_any a b d s W h)
  rw [h] at HR
  clear h
  unfold idV at *
  go_enter Tryz.func176, Tryz.ntmps176
  go_wp2_with (first
   | (go_at_call 219; refine (HR _).out.mono ?_; rintro e w1 ⟨rfl, hb⟩; obtain ⟨hc, hf⟩ := bcell hb; have hz : w.heap.size < w1.heap.size := (by have := hb.size; simp at this; omega))
   | (go_at_call 34; refine (HN _).out.mono ?_; rintro e w2 ⟨rfl, hb2⟩))
  go_ret
  exact ⟨rfl, (((Below.refl _ _).alloc (Nat.le_refl _) _).trans (hb.mono (by simp))).trans (hb2.mono (Nat.le_of_lt hz))⟩

set_option maxHeartbeats 400000 in
theorem implIdNum_any (a b d s : Int) (w : World) :
  Calls Tryz.prog 165 #[idV a b d s] w fun e w' => e = .returned (.int .i64 (idN a b d s)) ∧ Below w.heap.size w w' := by
 rcases h : idB a b d s
 ·have HO := Lib.hid (show idN a b d s = -1 by simp [idN, h])
  have HR := fun W => Lib.hid (implIdRight_any a b d s W)
  rw [h] at HR
  clear h
  unfold idV at *
  go_enter Tryz.func165, Tryz.ntmps165
  go_wp2_with (go_at_call 195; refine (HR _).out.mono ?_; rintro e w' ⟨rfl, hb⟩)
  go_ret
  exact ⟨by rw [HO.out]; rfl, ((Below.refl _ _).alloc (Nat.le_refl _) _).trans (hb.mono (by simp))⟩
 ·have HR := fun W => Lib.hid (implIdRight_any a b d s W)
  rw [h] at HR
  obtain ⟨h1, h2, h3, h4⟩ := idB_of h
  have hbr := broadB_of (inB_yes h3.1 h3.2)
  rcases h4 with ⟨h4, rfl⟩ | ⟨h4, h5, h6⟩
  ·have HO := Lib.hid (show idN a b 255 s = 67108864 * a + 256 * b + s by simp [idN, h, h4])
   clear h
   unfold idV at *
   go_enter Tryz.func165, Tryz.ntmps165
   go_wp2_with (first
    | (go_at_call 195; refine (HR _).out.mono ?_; rintro e w1 ⟨rfl, hb⟩; obtain ⟨hc, hf⟩ := bcell hb; have hz : w.heap.size < w1.heap.size := (by have := hb.size; simp at this; omega))
    | (go_at_call 210; refine (implBroad_any _ _).mono ?_; rw [hbr, h4]; rintro e w' ⟨rfl, rfl⟩))
   go_ret
   exact ⟨by rw [HO.out]; rfl, ((Below.refl _ _).alloc (Nat.le_refl _) _).trans (hb.mono (by simp))⟩
  ·have HO := Lib.hid (show idN a b d s = 67108864 * a + 256 * (b + d) + s by simp [idN, h, h4])
   clear h h5
   unfold idV at *
   go_enter Tryz.func165, Tryz.ntmps165
   go_wp2_with (first
    | (go_at_call 195; refine (HR _).out.mono ?_; rintro e w1 ⟨rfl, hb⟩; obtain ⟨hc, hf⟩ := bcell hb; have hz : w.heap.size < w1.heap.size := (by have := hb.size; simp at this; omega))
    | (go_at_call 210; refine (implBroad_any _ _).mono ?_; rw [hbr, h4]; rintro e w' ⟨rfl, rfl⟩))
   go_ret
   exact ⟨by rw [HO.out]; rfl, ((Below.refl _ _).alloc (Nat.le_refl _) _).trans (hb.mono (by simp))⟩
end Go.Proofs.YtioldepgoodipaaGreat
namespace Go.Proofs.YtioldepgoodipaaGreat
open Go.RowKit
set_option linter.unusedVariables false

def ofB (n : Int) : Bool := decide (0 ≤ n) && decide (n ≤ 536870911) && decide (n % 67108864 / 256 ≤ 131071)
def pG (n : Int) : Int := if wideB (n % 67108864 / 256) = true then n % 67108864 / 256 else n % 67108864 / 256 - n % 67108864 / 256 % 256
def pD (n : Int) : Int := if wideB (n % 67108864 / 256) = true then 255 else n % 67108864 / 256 % 256
theorem wideB_iff (p : Int) : wideB p = true ↔ 0 ≤ p ∧ 240 ≤ p / 256 % 256 := by simp [wideB]
theorem wideB_not (p : Int) : wideB p = false ↔ ¬ (0 ≤ p ∧ 240 ≤ p / 256 % 256) := by
 rw [← wideB_iff, Bool.not_eq_true]
theorem ofB_iff (n : Int) : ofB n = true ↔ 0 ≤ n ∧ n ≤ 536870911 ∧ n % 67108864 / 256 ≤ 131071 := by simp [ofB, and_assoc]
theorem ofB_not (n : Int) : ofB n = false ↔ ¬ (0 ≤ n ∧ n ≤ 536870911 ∧ n % 67108864 / 256 ≤ 131071) := by
 rw [← ofB_iff, Bool.not_eq_true]
theorem idB_part {n : Int} (h : ofB n = true) : idB (n / 67108864) (pG n) (pD n) (n % 256) = true := by
 rw [ofB_iff] at h
 unfold pG pD
 rcases hw : wideB (n % 67108864 / 256)
 ·simp
  have hw' := (wideB_not _).1 hw
  refine idB_to (by omega) (by omega) (by omega) (.inr ⟨(wideB_not _).2 ?_, by omega, by omega, by omega⟩)
  omega
 ·simp
  exact idB_to (by omega) (by omega) (by omega) (.inl ⟨hw, rfl⟩)
theorem idN_part {n : Int} (h : ofB n = true) : idN (n / 67108864) (pG n) (pD n) (n % 256) = n := by
 have h1 := idB_part h
 rw [ofB_iff] at h
 unfold idN
 rw [if_pos h1]
 clear h1
 unfold pG pD
 rcases hw : wideB (n % 67108864 / 256)
 ·simp
  have hw' := (wideB_not _).1 hw
  have : wideB (n % 67108864 / 256 - n % 67108864 / 256 % 256) = false := (wideB_not _).2 (by omega)
  rw [if_neg (by rw [this]; simp)]
  omega
 ·simp
  rw [if_pos hw]
  omega
def idOutV (a b d s c : Int) : Value := .agg #[.int .i64 a, .int .i64 b, .int .i64 d, .int .i64 s, .int .i64 c]
def idOfV (n : Int) : Value := if ofB n = true then idOutV (n / 67108864) (pG n) (pD n) (n % 256) 0 else idOutV 0 0 0 0 1

theorem apart_math (n : Int) (hn : 0 ≤ n) (hw : broadB (n % 67108864 / 256) = true) : idB (n / 67108864) (n % 67108864 / 256) 255 (n % 256) = ofB n ∧ (ofB n = true → n % 67108864 / 256 = pG n ∧ (255 : Int) = pD n) := by
 simp [broadB] at hw
 have hb := inB_of hw.1
 unfold pG pD
 simp [hw.2]
 rcases h : ofB n
 ·rw [ofB_not] at h
  rw [Bool.eq_false_iff]
  intro q
  have := idB_of q
  omega
 ·rw [ofB_iff] at h
  exact idB_to (by omega) (by omega) (by omega) (.inl ⟨hw.2, rfl⟩)
theorem apart_math2 (n : Int) (hn : 0 ≤ n) (hw : broadB (n % 67108864 / 256) = false) : idB (n / 67108864) (n % 67108864 / 256 - n % 67108864 / 256 % 256) (n % 67108864 / 256 % 256) (n % 256) = ofB n ∧ (ofB n = true → n % 67108864 / 256 - n % 67108864 / 256 % 256 = pG n ∧ n % 67108864 / 256 % 256 = pD n) := by
 rcases h : ofB n
 ·rw [ofB_not] at h
  refine ⟨?_, fun q => by cases q⟩
  rw [Bool.eq_false_iff]
  intro q
  have := idB_of q
  omega
 ·rw [ofB_iff] at h
  have h4 : wideB (n % 67108864 / 256) = false := by
   rw [broadB_of (inB_yes (by omega) (by omega))] at hw
   exact hw
  unfold pG pD
  simp [h4]
  have h5 := (wideB_not _).1 h4
  exact idB_to (by omega) (by omega) (by omega) (.inr ⟨(wideB_not _).2 (by omega), by omega, by omega, by omega⟩)
theorem apart_neg (q : Int) (hq : 0 < q) : broadB (((-q).tmod 67108864).tdiv 256) = false ∧ idB ((-q).tdiv 67108864) (((-q).tmod 67108864).tdiv 256 - (((-q).tmod 67108864).tdiv 256).tmod 256) ((((-q).tmod 67108864).tdiv 256).tmod 256) ((-q).tmod 256) = false := by
 have e1 : (-q).tdiv 67108864 = -(q / 67108864) := by rw [Int.neg_tdiv, Int.tdiv_eq_ediv_of_nonneg (by omega)]
 have e2 : (-q).tmod 256 = -(q % 256) := by rw [Int.neg_tmod, Int.tmod_eq_emod_of_nonneg (by omega)]
 have e3 : ((-q).tmod 67108864).tdiv 256 = -(q % 67108864 / 256) := by rw [Int.neg_tmod, Int.neg_tdiv, Int.tmod_eq_emod_of_nonneg (by omega), Int.tdiv_eq_ediv_of_nonneg (by omega)]
 have e4 : (-(q % 67108864 / 256)).tmod 256 = -(q % 67108864 / 256 % 256) := by rw [Int.neg_tmod, Int.tmod_eq_emod_of_nonneg (by omega)]
 rw [e1, e2, e3, e4]
 constructor
 ·rw [Bool.eq_false_iff]
  intro h
  simp [broadB] at h
  have := (wideB_iff _).1 h.2
  omega
 ·rw [Bool.eq_false_iff]
  intro h
  have := idB_of h
  omega

theorem apart_neg' (n : Int) (hn : n < 0) : broadB ((n.tmod 67108864).tdiv 256) = false ∧ idB (n.tdiv 67108864) ((n.tmod 67108864).tdiv 256 - ((n.tmod 67108864).tdiv 256).tmod 256) (((n.tmod 67108864).tdiv 256).tmod 256) (n.tmod 256) = false := by
 obtain ⟨q, rfl⟩ : ∃ q : Int, n = -q := ⟨-n, by omega⟩
 exact apart_neg q (by omega)
theorem apart_bounds (n : Int) (hn : n < 0) : -262144 ≤ (n.tmod 67108864).tdiv 256 ∧ (n.tmod 67108864).tdiv 256 ≤ 0 ∧ -256 ≤ ((n.tmod 67108864).tdiv 256).tmod 256 ∧ ((n.tmod 67108864).tdiv 256).tmod 256 ≤ 0 := by
 obtain ⟨q, rfl⟩ : ∃ q : Int, n = -q := ⟨-n, by omega⟩
 have e3 : ((-q).tmod 67108864).tdiv 256 = -(q % 67108864 / 256) := by rw [Int.neg_tmod, Int.neg_tdiv, Int.tmod_eq_emod_of_nonneg (by omega), Int.tdiv_eq_ediv_of_nonneg (by omega)]
 have e4 : (-(q % 67108864 / 256)).tmod 256 = -(q % 67108864 / 256 % 256) := by rw [Int.neg_tmod, Int.tmod_eq_emod_of_nonneg (by omega)]
 rw [e3, e4]
 omega

set_option maxHeartbeats 1000000 in
theorem takenApart_any (n : Int) (w : World) (h0 : -9223372036854775808 ≤ n) (h1 : n ≤ 9223372036854775807) :
  Calls Tryz.prog 194 #[.int .i64 n] w fun e w' => ∃ a b d s, e = .returned (idV a b d s) ∧ (idB a b d s = ofB n ∧ (ofB n = true → a = n / 67108864 ∧ b = pG n ∧ d = pD n ∧ s = n % 256)) ∧ Below w.heap.size w w' := by
 by_cases hn : 0 ≤ n
 ·rcases hw : broadB (n % 67108864 / 256)
  ·have HM := Lib.hid (apart_math2 n hn hw)
   go_enter Tryz.func194, Tryz.ntmps194
   go_wp2_with (go_at_call 210; refine (implBroad_any _ _).mono ?_; rw [hw]; rintro e w' ⟨rfl, rfl⟩)
   exact bodyPost_ret (v := idV (n / 67108864) (n % 67108864 / 256 - n % 67108864 / 256 % 256) (n % 67108864 / 256 % 256) (n % 256)) (by simp [results, Tryz.results194, go_sem, idV]) rfl
    ⟨_, _, _, _, rfl, ⟨HM.out.1, fun q => ⟨rfl, (HM.out.2 q).1, (HM.out.2 q).2, rfl⟩⟩, ((Below.refl _ _).alloc (Nat.le_refl _) _).alloc (by simp) _⟩
  ·have HM := Lib.hid (apart_math n hn hw)
   go_enter Tryz.func194, Tryz.ntmps194
   go_wp2_with (go_at_call 210; refine (implBroad_any _ _).mono ?_; rw [hw]; rintro e w' ⟨rfl, rfl⟩)
   exact bodyPost_ret (v := idV (n / 67108864) (n % 67108864 / 256) 255 (n % 256)) (by simp [results, Tryz.results194, go_sem, idV]) rfl
    ⟨_, _, _, _, rfl, ⟨HM.out.1, fun q => ⟨rfl, (HM.out.2 q).1, (HM.out.2 q).2, rfl⟩⟩, ((Below.refl _ _).alloc (Nat.le_refl _) _).alloc (by simp) _⟩
 ·have hof : ofB n = false := (ofB_not _).2 (by omega)
  obtain ⟨hw, hm⟩ := apart_neg' n (by omega)
  have HM := Lib.hid hm
  obtain ⟨hp0, hp1, hp2, hp3⟩ := apart_bounds n (by omega)
  clear hm
  rw [hof]
  clear hof
  go_enter Tryz.func194, Tryz.ntmps194
  go_wp2_with (go_at_call 210; refine (implBroad_any _ _).mono ?_; rw [hw]; rintro e w' ⟨rfl, rfl⟩)
  exact bodyPost_ret (v := idV (n.tdiv 67108864) ((n.tmod 67108864).tdiv 256 - ((n.tmod 67108864).tdiv 256).tmod 256) (((n.tmod 67108864).tdiv 256).tmod 256) (n.tmod 256)) (by simp [results, Tryz.results194, go_sem, idV]) rfl
    ⟨_, _, _, _, rfl, ⟨HM.out, fun q => by cases q⟩, ((Below.refl _ _).alloc (Nat.le_refl _) _).alloc (by simp) _⟩

set_option maxHeartbeats 400000 in
theorem implIdOf_any (n : Int) (w : World) (h0 : -9223372036854775808 ≤ n) (h1 : n ≤ 9223372036854775807) :
  Calls Tryz.prog 133 #[.int .i64 n] w fun e w' => e = .returned (idOfV n) ∧ Below w.heap.size w w' := by
 rcases h : ofB n
 ·have HO := Lib.hid (show idOfV n = idOutV 0 0 0 0 1 by simp [idOfV, h])
  go_enter Tryz.func133, Tryz.ntmps133
  go_wp2_with (first
   | (go_at_call 194; refine (takenApart_any _ _ h0 h1).mono ?_; rw [h]; rintro e w1 ⟨a, b, d, s, rfl, ⟨hB, hE⟩, hb⟩; obtain ⟨hc, hf⟩ := bcell hb; have hz : w.heap.size < w1.heap.size := (by have := hb.size; simp at this; omega); unfold idV)
   | (go_at_call 195; refine (implIdRight_any a b d s _).mono ?_; rw [hB]; rintro e w2 ⟨rfl, hb2⟩; obtain ⟨hc2, hf2⟩ := bcell hb2; have hz2 : w1.heap.size < w2.heap.size := (by have := hb2.size; simp at this; omega)))
  have hB1 : Below w.heap.size w w2 := ((((Below.refl _ _).alloc (Nat.le_refl _) _).trans (hb.mono (by simp))).alloc (Nat.le_of_lt hz) _).trans (hb2.mono (by simp; omega))
  have k0 : ∀ j, j < 5 → (w2.cell? ⟨w.heap.size, j, none⟩).isSome = true := by
   intro j hj
   simp [go_sem, hc2, hc, hz]
   omega
  exact bodyPost_ret (v := idOutV 0 0 0 0 1) (by simp [results, Tryz.results133, go_sem, k0, idOutV]) rfl
   ⟨by rw [HO.out], ((((hB1.setCell (by simp) _).setCell (by simp) _).setCell (by simp) _).setCell (by simp) _).setCell (by simp) _⟩
 ·have HO := Lib.hid (show idOfV n = idOutV (n / 67108864) (pG n) (pD n) (n % 256) 0 by simp [idOfV, h])
  go_enter Tryz.func133, Tryz.ntmps133
  go_wp2_with (first
   | (go_at_call 194; refine (takenApart_any _ _ h0 h1).mono ?_; rw [h]; rintro e w1 ⟨a, b, d, s, rfl, ⟨hB, hE⟩, hb⟩; obtain ⟨hc, hf⟩ := bcell hb; have hz : w.heap.size < w1.heap.size := (by have := hb.size; simp at this; omega); have HE := Lib.hid (hE rfl); clear hE; unfold idV)
   | (go_at_call 195; refine (implIdRight_any a b d s _).mono ?_; rw [hB]; rintro e w2 ⟨rfl, hb2⟩; obtain ⟨hc2, hf2⟩ := bcell hb2; have hz2 : w1.heap.size < w2.heap.size := (by have := hb2.size; simp at this; omega)))
  have hB1 : Below w.heap.size w w2 := ((((Below.refl _ _).alloc (Nat.le_refl _) _).trans (hb.mono (by simp))).alloc (Nat.le_of_lt hz) _).trans (hb2.mono (by simp; omega))
  obtain ⟨rfl, rfl, rfl, rfl⟩ := HE.out
  have k0 : ∀ j, j < 5 → (w2.cell? ⟨w.heap.size, j, none⟩).isSome = true := by
   intro j hj
   simp [go_sem, hc2, hc, hz]
   omega
  exact bodyPost_ret (v := idOutV (n / 67108864) (pG n) (pD n) (n % 256) 0) (by simp [results, Tryz.results133, go_sem, k0, idOutV]) rfl
   ⟨by rw [HO.out], ((((hB1.setCell (by simp) _).setCell (by simp) _).setCell (by simp) _).setCell (by simp) _).setCell (by simp) _⟩

def sG (n : Int) : Int := if wideB (n / 256 % 262144) = true then n / 256 % 262144 else n / 256 % 262144 - n / 256 % 262144 % 256
def sD (n : Int) : Int := if wideB (n / 256 % 262144) = true then 255 else n / 256 % 262144 % 256
theorem part_alike (n : Int) : n / 256 % 262144 = n % 67108864 / 256 := by omega
theorem sG_eq (n : Int) : sG n = pG n := by
 unfold sG pG
 rw [part_alike]
theorem sD_eq (n : Int) : sD n = pD n := by
 unfold sD pD
 rw [part_alike]
theorem idB_not_part {n : Int} (hn : 0 ≤ n) (h : ofB n = false) : idB (n / 67108864) (pG n) (pD n) (n % 256) = false := by
 rw [ofB_not] at h
 rw [Bool.eq_false_iff]
 intro q
 obtain ⟨q1, q2, q3, q4⟩ := idB_of q
 unfold pG at q3
 split at q3 <;> omega
set_option maxHeartbeats 1000000 in
theorem l02Id_any (n : Int) (w : World) (h0 : 0 ≤ n) (h1 : n ≤ 9223372036854775807) :
  Calls Tryz.prog 122 #[.int .i64 n] w fun e w' => e = .returned (idV (n / 67108864) (pG n) (pD n) (n % 256)) ∧ Below w.heap.size w w' := by
 rw [← sG_eq, ← sD_eq]
 rcases hw : wideB (n / 256 % 262144)
 ·have HG := Lib.hid (show sG n = n / 256 % 262144 - n / 256 % 262144 % 256 by simp [sG, hw])
  have HD := Lib.hid (show sD n = n / 256 % 262144 % 256 by simp [sD, hw])
  go_enter Tryz.func122, Tryz.ntmps122
  go_wp2_with (go_at_call 86; refine (l02Broad_any _ _ (by omega) (by omega)).mono ?_; rw [hw]; rintro e w' ⟨rfl, rfl⟩)
  rw [HG.out, HD.out]
  exact bodyPost_ret (v := idV (n / 67108864) (n / 256 % 262144 - n / 256 % 262144 % 256) (n / 256 % 262144 % 256) (n % 256)) (by simp [results, Tryz.results122, go_sem, idV]) rfl
   ⟨rfl, ((Below.refl _ _).alloc (Nat.le_refl _) _).alloc (by simp) _⟩
 ·have HG := Lib.hid (show sG n = n / 256 % 262144 by simp [sG, hw])
  have HD := Lib.hid (show sD n = 255 by simp [sD, hw])
  go_enter Tryz.func122, Tryz.ntmps122
  go_wp2_with (go_at_call 86; refine (l02Broad_any _ _ (by omega) (by omega)).mono ?_; rw [hw]; rintro e w' ⟨rfl, rfl⟩)
  rw [HG.out, HD.out]
  exact bodyPost_ret (v := idV (n / 67108864) (n / 256 % 262144) 255 (n % 256)) (by simp [results, Tryz.results122, go_sem, idV]) rfl
   ⟨rfl, ((Below.refl _ _).alloc (Nat.le_refl _) _).alloc (by simp) _⟩

theorem idN_not {a b d s : Int} (h : idB a b d s = false) : idN a b d s = -1 := by simp [idN, h]

set_option maxHeartbeats 1000000 in
theorem specIdOf_any (n : Int) (w : World) (h0 : -9223372036854775808 ≤ n) (h1 : n ≤ 9223372036854775807) :
  Calls Tryz.prog 121 #[.int .i64 n] w fun e w' => e = .returned (idOfV n) ∧ Below w.heap.size w w' := by
 by_cases hn : 0 ≤ n
 ·have hd : decide (n < 0) = false := decide_eq_false (by omega)
  rcases h : ofB n
  ·have HO := Lib.hid (show idOfV n = idOutV 0 0 0 0 1 by simp [idOfV, h])
   have HN := Lib.hid (idN_not (idB_not_part hn h))
   have hd2 : ((-1 : Int) != n) = true := by simp; omega
   have HL := fun W => Lib.hid (l02Id_any n W hn h1)
   clear h
   generalize pG n = b at *
   generalize pD n = d at *
   go_enter Tryz.func121, Tryz.ntmps121
   go_wp2_with (first
    | (go_at_call 122; refine (HL _).out.mono ?_; rintro e w1 ⟨rfl, hb⟩; obtain ⟨hc, hf⟩ := bcell hb; have hz : w.heap.size < w1.heap.size := (by have := hb.size; simp at this; omega); unfold idV)
    | (go_at_call 176; refine (specIdNum_any _ _ _ _ _).mono ?_; rw [HN.out]; rintro e w2 ⟨rfl, hb2⟩; obtain ⟨hc2, hf2⟩ := bcell hb2; have hz2 : w.heap.size < w2.heap.size := (by have := hb2.size; omega)))
   have hB1 : Below w.heap.size w w2 := (((Below.refl _ _).alloc (Nat.le_refl _) _).trans (hb.mono (by simp))).trans (hb2.mono (Nat.le_of_lt hz))
   have k0 : ∀ j, j < 5 → (w2.cell? ⟨w.heap.size, j, none⟩).isSome = true := by
    intro j hj
    simp [go_sem, hc2, hc, hz]
    omega
   exact bodyPost_ret (v := idOutV 0 0 0 0 1) (by simp [results, Tryz.results121, go_sem, k0, idOutV]) rfl
    ⟨by rw [HO.out], ((((hB1.setCell (by simp) _).setCell (by simp) _).setCell (by simp) _).setCell (by simp) _).setCell (by simp) _⟩
  ·have HO := Lib.hid (show idOfV n = idOutV (n / 67108864) (pG n) (pD n) (n % 256) 0 by simp [idOfV, h])
   have HN := Lib.hid (idN_part h)
   have HL := fun W => Lib.hid (l02Id_any n W hn h1)
   clear h
   generalize pG n = b at *
   generalize pD n = d at *
   have hd2 : (n != n) = false := by simp
   go_enter Tryz.func121, Tryz.ntmps121
   go_wp2_with (first
    | (go_at_call 176; refine (specIdNum_any _ _ _ _ _).mono ?_; rw [HN.out]; rintro e w2 ⟨rfl, hb2⟩; obtain ⟨hc2, hf2⟩ := bcell hb2; have hz2 : w.heap.size < w2.heap.size := (by have := hb2.size; omega))
    | (go_at_call 122; refine (HL _).out.mono ?_; (first | (rintro e w3 ⟨rfl, hb3⟩; have hz3 := hz2; obtain ⟨hc3, hf3⟩ := bcell hb3) | (rintro e w1 ⟨rfl, hb⟩; obtain ⟨hc, hf⟩ := bcell hb; have hz : w.heap.size < w1.heap.size := (by have := hb.size; simp at this; omega))); unfold idV))
   have hB1 : Below w.heap.size w w3 := ((((Below.refl _ _).alloc (Nat.le_refl _) _).trans (hb.mono (by simp))).trans (hb2.mono (Nat.le_of_lt hz))).trans (hb3.mono (Nat.le_of_lt hz2))
   have k0 : ∀ j, j < 5 → (w3.cell? ⟨w.heap.size, j, none⟩).isSome = true := by
    intro j hj
    simp [go_sem, hc3, hc2, hc, hz, hz2]
    omega
   exact bodyPost_ret (v := idOutV (n / 67108864) b d (n % 256) 0) (by simp [results, Tryz.results121, go_sem, k0, idOutV]) rfl
    ⟨by rw [HO.out], ((((hB1.setCell (by simp) _).setCell (by simp) _).setCell (by simp) _).setCell (by simp) _).setCell (by simp) _⟩
 ·have hd : decide (n < 0) = true := decide_eq_true (by omega)
  have HO := Lib.hid (show idOfV n = idOutV 0 0 0 0 1 by simp [idOfV, (ofB_not n).2 (by omega)])
  go_enter Tryz.func121, Tryz.ntmps121
  go_wp2_with fail
  exact bodyPost_ret (v := idOutV 0 0 0 0 1) (by simp [results, Tryz.results121, go_sem, idOutV]) rfl
   ⟨by rw [HO.out], (Below.refl _ _).alloc (Nat.le_refl _) _⟩
end Go.Proofs.YtioldepgoodipaaGreat
namespace Go.Proofs.YtioldepgoodipaaGreat
open Go.RowKit
set_option linter.unusedVariables false
theorem Joined.info8 : (Tryz.prog.info? 5).map (fun i => (i.zero, i.size, i.bytes)) = some (some (.int .u8 0), 1, 1) := by kernel_rfl
theorem Text.one8 : (Tryz.prog.info? 5).map (·.size) = some 1 := by kernel_rfl

theorem splice_both (a b : List Value) (l : List Value) (h : l.length = a.length + b.length) : splice (splice l 0 a) a.length b = a ++ b := by
 unfold splice
 simp [h]
theorem bsize (a : ByteArray) : (bcells a.data.toList).length = a.size := by simp [bcells]
theorem joined_cells (a b : ByteArray) (cur : List Value) (h : cur.length = a.size + b.size) :
  (splice (splice cur 0 (bcells a.data.toList)) a.size (bcells b.data.toList)).toArray.toList.take (a.size + b.size) = bcells (a.data.toList ++ b.data.toList) := by
 have e := splice_both (bcells a.data.toList) (bcells b.data.toList) cur (by rw [bsize, bsize]; exact h)
 rw [bsize] at e
 rw [e, bcells_append]
 exact List.take_of_length_le (by simp [bsize])
theorem joined_cells0 (a : ByteArray) (cur : List Value) (h : cur.length = a.size) :
  (splice (splice cur 0 (bcells a.data.toList)) 0 (bcells ByteArray.empty.data.toList)).toArray.toList.take a.size = bcells a.data.toList := by
 have e := splice_both (bcells a.data.toList) [] cur (by rw [bsize]; exact h)
 have e2 : splice (splice cur 0 (bcells a.data.toList)) 0 (bcells ByteArray.empty.data.toList) = bcells a.data.toList := by
  rw [← (by simpa using e : splice (splice cur 0 (bcells a.data.toList)) (bcells a.data.toList).length [] = bcells a.data.toList)]
  have e0 : bcells ByteArray.empty.data.toList = [] := rfl
  rw [e0]
  simp [splice]
  rw [bsize]
  omega
 rw [e2]
 exact List.take_of_length_le (by simp [bsize])
theorem empty_le : ByteArray.empty.size ≤ 0 := Nat.le_refl 0
theorem empty_pos : ¬ 0 < ByteArray.empty.size := Nat.lt_irrefl 0
theorem empty_fit (l : List Value) : 0 + ByteArray.empty.size ≤ l.length := Nat.zero_le _
theorem empty_of_size {b : ByteArray} (h : b.size = 0) : b = ByteArray.empty := by
 apply ByteArray.ext
 have : b.data.size = 0 := h
 exact Array.eq_empty_of_size_eq_zero this

set_option maxHeartbeats 400000 in
theorem joined0_any (a : ByteArray) (w : World) (ha : a.size ≤ 1000000) :
  Calls Tryz.prog 170 #[.string a, .string ByteArray.empty] w fun e w' => e = .returned (.string ⟨a.data.toList.toArray⟩) ∧ Below w.heap.size w w' := by
 obtain ⟨i0, hi, hz0, hz1, hz2⟩ := info_parts Joined.info8
 go_enter Tryz.func170, Tryz.ntmps170
 go_wp2_with (first
  | (at_make; refine wpList_make_full _ rfl (.tmp 11) (.tmp 11) 153 rfl w.heap.size 5 i0 (.int .u8 0) 1 Tryz.underlying153 hi hz0 hz1 .i64 .i64 (a.size : Int) (a.size : Int) a.size (by rfl) (by rfl) (by omega) (by omega) (by rw [hz2]; omega) (by unfold maxLen; omega) (Nat.le_refl _) ?_; intro w1 hown hgrow; have hb1 : Below w.heap.size w w1 := (Below.refl _ _).grown hgrow (Nat.le_refl _) (fun _ h => by cases h); obtain ⟨cur, hcur, hlen⟩ := own_row hown; have HC := Lib.hid hcur; have HN := Lib.hid hlen; clear hcur hlen hown hgrow)
  | (with_reducible refine wpList_copy_str rfl (.tmp 13) (.tmp 14) 153 9 rfl 5 Tryz.underlying153 Text.one8 a rfl _ _ _ rfl (by omega) w.heap.size 0 (fun _ => rfl) cur 5 HC.out (by have := HN.out; omega) w.heap.size w hb1 (Nat.le_refl _) ?_; intro w2 HC2 hb2)
  | (with_reducible refine wpList_copy_str rfl (.tmp 18) (.tmp 19) 153 9 rfl 5 Tryz.underlying153 Text.one8 ByteArray.empty rfl _ _ _ rfl empty_le w.heap.size 0 (fun h => absurd h empty_pos) (splice cur 0 (bcells a.data.toList)) 5 HC2.out (empty_fit _) w.heap.size w hb2 (Nat.le_refl _) ?_; intro w3 HC3 hb3; have hcv := conv_row (P := Tryz.prog) HC3.out a.size (by simp) (joined_cells0 a cur HN.out) 153 9 Tryz.underlying153 Tryz.underlying5 Tryz.underlying9))
 go_ret
 exact ⟨rfl, hb3⟩

set_option maxHeartbeats 400000 in
theorem joined_any (a b : ByteArray) (w : World) (ha : a.size ≤ 1000000) (hb : b.size ≤ 1000000) :
  Calls Tryz.prog 170 #[.string a, .string b] w fun e w' => e = .returned (.string ⟨(a.data.toList ++ b.data.toList).toArray⟩) ∧ Below w.heap.size w w' := by
 obtain ⟨i0, hi, hz0, hz1, hz2⟩ := info_parts Joined.info8
 by_cases hb0 : b = ByteArray.empty
 ·subst hb0
  have e : a.data.toList ++ ByteArray.empty.data.toList = a.data.toList := List.append_nil _
  rw [e]
  exact joined0_any a w ha
 have hb1 : 1 ≤ b.size := by
  rcases Nat.lt_or_ge 0 b.size with h | h
  ·exact h
  ·exact absurd (empty_of_size (by omega)) hb0
 go_enter Tryz.func170, Tryz.ntmps170
 go_wp2_with (first
  | (at_make; refine wpList_make_full _ rfl (.tmp 11) (.tmp 11) 153 rfl w.heap.size 5 i0 (.int .u8 0) 1 Tryz.underlying153 hi hz0 hz1 .i64 .i64 ((a.size : Int) + (b.size : Int)) ((a.size : Int) + (b.size : Int)) (a.size + b.size) (by rfl) (by rfl) (by omega) (by omega) (by rw [hz2]; omega) (by unfold maxLen; omega) (Nat.le_refl _) ?_; intro w1 hown hgrow; have hb1 : Below w.heap.size w w1 := (Below.refl _ _).grown hgrow (Nat.le_refl _) (fun _ h => by cases h); obtain ⟨cur, hcur, hlen⟩ := own_row hown; have HC := Lib.hid hcur; have HN := Lib.hid hlen; clear hcur hlen hown hgrow)
  | (with_reducible refine wpList_copy_str rfl (.tmp 13) (.tmp 14) 153 9 rfl 5 Tryz.underlying153 Text.one8 a rfl _ _ _ rfl (by omega) w.heap.size 0 (fun _ => rfl) cur 5 HC.out (by have := HN.out; omega) w.heap.size w hb1 (Nat.le_refl _) ?_; intro w2 HC2 hb2)
  | (with_reducible refine wpList_copy_str rfl (.tmp 18) (.tmp 19) 153 9 rfl 5 Tryz.underlying153 Text.one8 b rfl _ _ _ rfl (by omega) w.heap.size a.size (fun _ => rfl) (splice cur 0 (bcells a.data.toList)) 5 HC2.out (by rw [length_splice _ _ _ (by have := HN.out; have := bsize a; omega)]; have := HN.out; omega) w.heap.size w hb2 (Nat.le_refl _) ?_; intro w3 HC3 hb3; have hcv := conv_row (P := Tryz.prog) HC3.out (a.size + b.size) (by simp) (joined_cells a b cur HN.out) 153 9 Tryz.underlying153 Tryz.underlying5 Tryz.underlying9))
 go_ret
 exact ⟨rfl, hb3⟩
end Go.Proofs.YtioldepgoodipaaGreat
namespace Go.Proofs.YtioldepgoodipaaGreat
open Go.RowKit
set_option linter.unusedVariables false

theorem run_field_idcode (a b d s c : Int) (w : World) : (Instr.field 185 (.agg #[.int .i64 a, .int .i64 b, .int .i64 d, .int .i64 s, .int .i64 c]) 1).run Tryz.prog w = .ok (.int .i64 c) w := by
 simp [Instr.field, asAgg, go_sem]

def canB (n : Int) (s : ByteArray) : Bool := ofB n && decide (s.size ≤ 8)
theorem idOfV_form (n : Int) : ∃ a b d s c, idOfV n = .agg #[.int .i64 a, .int .i64 b, .int .i64 d, .int .i64 s, .int .i64 c] ∧ (c == 0) = ofB n := by
 unfold idOfV idOutV
 rcases h : ofB n
 ·exact ⟨_, _, _, _, _, rfl, rfl⟩
 ·exact ⟨_, _, _, _, _, rfl, rfl⟩

set_option maxHeartbeats 1000000 in
theorem specCanRight_any (n : Int) (s : ByteArray) (w : World) (h0 : -9223372036854775808 ≤ n) (h1 : n ≤ 9223372036854775807) (hs : s.size ≤ maxLen) :
  Calls Tryz.prog 63 #[.agg #[.int .i64 n, .string s]] w fun e w' => e = .returned (.bool (canB n s)) ∧ Below w.heap.size w w' := by
 unfold maxLen at hs
 obtain ⟨a, b, d, s', c, ho, hc⟩ := idOfV_form n
 have H := fun W => Lib.hid (specIdOf_any n W h0 h1)
 rw [ho] at H
 clear ho
 have hff := run_field_idcode a b d s' c
 rcases h : ofB n
 ·rw [h] at hc
  have HO := Lib.hid (show canB n s = false by simp [canB, h])
  go_enter Tryz.func63, Tryz.ntmps63
  go_wp2_with (go_at_call 121; refine (H _).out.mono ?_; rintro e w1 ⟨rfl, h1⟩; obtain ⟨c1, f1⟩ := bcell h1; have z1 : w.heap.size < w1.heap.size := (by have := h1.size; simp at this; omega))
  go_ret
  exact ⟨by rw [HO.out]; rfl, ((Below.refl _ _).alloc (Nat.le_refl _) _).trans (h1.mono (by simp))⟩
 ·rw [h] at hc
  have HO := Lib.hid (show canB n s = decide ((s.size : Int) ≤ 8) by simp [canB, h]; omega)
  go_enter Tryz.func63, Tryz.ntmps63
  go_wp2_with (go_at_call 121; refine (H _).out.mono ?_; rintro e w1 ⟨rfl, h1⟩; obtain ⟨c1, f1⟩ := bcell h1; have z1 : w.heap.size < w1.heap.size := (by have := h1.size; simp at this; omega))
  go_ret
  exact ⟨by rw [HO.out]; rfl, ((Below.refl _ _).alloc (Nat.le_refl _) _).trans (h1.mono (by simp))⟩

set_option maxHeartbeats 1000000 in
theorem implCanRight_any (n : Int) (s : ByteArray) (w : World) (h0 : -9223372036854775808 ≤ n) (h1 : n ≤ 9223372036854775807) (hs : s.size ≤ maxLen) :
  Calls Tryz.prog 66 #[.agg #[.int .i64 n, .string s]] w fun e w' => e = .returned (.bool (canB n s)) ∧ Below w.heap.size w w' := by
 unfold maxLen at hs
 obtain ⟨a, b, d, s', c, ho, hc⟩ := idOfV_form n
 have H := fun W => Lib.hid (implIdOf_any n W h0 h1)
 rw [ho] at H
 clear ho
 have hff := run_field_idcode a b d s' c
 rcases h : ofB n
 ·rw [h] at hc
  have HO := Lib.hid (show canB n s = false by simp [canB, h])
  go_enter Tryz.func66, Tryz.ntmps66
  go_wp2_with (go_at_call 133; refine (H _).out.mono ?_; rintro e w1 ⟨rfl, h1⟩; obtain ⟨c1, f1⟩ := bcell h1; have z1 : w.heap.size < w1.heap.size := (by have := h1.size; simp at this; omega))
  go_ret
  exact ⟨by rw [HO.out]; rfl, ((Below.refl _ _).alloc (Nat.le_refl _) _).trans (h1.mono (by simp))⟩
 ·rw [h] at hc
  have HO := Lib.hid (show canB n s = decide ((s.size : Int) ≤ 8) by simp [canB, h]; omega)
  go_enter Tryz.func66, Tryz.ntmps66
  go_wp2_with (go_at_call 133; refine (H _).out.mono ?_; rintro e w1 ⟨rfl, h1⟩; obtain ⟨c1, f1⟩ := bcell h1; have z1 : w.heap.size < w1.heap.size := (by have := h1.size; simp at this; omega))
  go_ret
  exact ⟨by rw [HO.out]; rfl, ((Below.refl _ _).alloc (Nat.le_refl _) _).trans (h1.mono (by simp))⟩

def headB (n : Int) (k : Nat) : List UInt8 := [UInt8.ofNat (n / 16777216).toNat, UInt8.ofNat (n / 65536 % 256).toNat, UInt8.ofNat (n / 256 % 256).toNat, UInt8.ofNat (n % 256).toNat, UInt8.ofNat k]
def canBytesB (n : Int) (s : ByteArray) : List UInt8 := if canB n s = true then headB n s.size ++ s.data.toList else []
end Go.Proofs.YtioldepgoodipaaGreat
namespace Go.Proofs.YtioldepgoodipaaGreat
open Go.RowKit
set_option linter.unusedVariables false

def CansIn (w : World) (a : Option Addr) (l : List (Int × ByteArray)) : Prop :=
 l = [] ∨ ∃ b o, a = some ⟨b, o, none⟩ ∧ b < w.heap.size ∧ ∀ (i : Nat) x, l[i]? = some x → w.cell? ⟨b, o + i * 2, none⟩ = some (.int .i64 x.1) ∧ w.cell? ⟨b, o + i * 2 + 1, none⟩ = some (.string x.2)
def CansOk (l : List (Int × ByteArray)) : Prop := ∀ x ∈ l, (-9223372036854775808 ≤ x.1 ∧ x.1 ≤ 9223372036854775807) ∧ x.2.size ≤ maxLen
theorem CansIn.kept {w w' : World} {a : Option Addr} {l : List (Int × ByteArray)} (h : CansIn w a l) (hb : Below w.heap.size w w') : CansIn w' a l := by
 rcases h with h | ⟨b, o, rfl, hlt, hc⟩
 ·exact .inl h
 ·exact .inr ⟨b, o, rfl, Nat.lt_of_lt_of_le hlt hb.size, fun i x hx => ⟨(hb.cell (p := ⟨b, _, none⟩) hlt).trans (hc i x hx).1, (hb.cell (p := ⟨b, _, none⟩) hlt).trans (hc i x hx).2⟩⟩
def canAt (l : List (Int × ByteArray)) (i : Nat) : Int × ByteArray := l[i]?.getD (0, ByteArray.empty)
theorem canAt_some {l : List (Int × ByteArray)} {i : Nat} (h : i < l.length) : l[i]? = some (canAt l i) := by
 unfold canAt
 rw [List.getElem?_eq_getElem h]
 rfl
theorem canAt_ok {l : List (Int × ByteArray)} (h : CansOk l) {i : Nat} (hi : i < l.length) : (-9223372036854775808 ≤ (canAt l i).1 ∧ (canAt l i).1 ≤ 9223372036854775807) ∧ (canAt l i).2.size ≤ maxLen :=
 h _ (List.mem_of_getElem? (canAt_some hi))
def allB (l : List (Int × ByteArray)) : Bool := l.all fun x => canB x.1 x.2
def AllTo (l : List (Int × ByteArray)) (n : Nat) : Prop := ∀ i, i < n → canB (canAt l i).1 (canAt l i).2 = true
theorem AllTo.zero (l : List (Int × ByteArray)) : AllTo l 0 := fun i h => absurd h (by omega)
theorem AllTo.next {l : List (Int × ByteArray)} {n : Nat} (h : AllTo l n) (hn : canB (canAt l n).1 (canAt l n).2 = true) : AllTo l (n + 1) := by
 intro i hi
 rcases Nat.lt_or_ge i n with h' | h'
 ·exact h i h'
 ·obtain rfl : i = n := by omega
  exact hn
theorem allB_yes {l : List (Int × ByteArray)} (h : AllTo l l.length) : allB l = true := by
 unfold allB
 rw [List.all_eq_true]
 intro x hx
 obtain ⟨i, hi, rfl⟩ := List.mem_iff_getElem.1 hx
 have := h i hi
 rwa [show canAt l i = l[i] by unfold canAt; rw [List.getElem?_eq_getElem hi]; rfl] at this
theorem allB_no {l : List (Int × ByteArray)} {i : Nat} (hi : i < l.length) (h : canB (canAt l i).1 (canAt l i).2 = false) : allB l = false := by
 unfold allB
 rw [List.all_eq_false]
 exact ⟨canAt l i, List.mem_of_getElem? (canAt_some hi), by rw [h]; simp⟩

set_option maxHeartbeats 1000000 in
theorem implAllRight_any (a : Option Addr) (cap : Nat) (l : List (Int × ByteArray)) (w : World) (h : CansIn w a l) (hok : CansOk l) (hlen : l.length ≤ 1048576) :
  Calls Tryz.prog 189 #[.slice a l.length cap] w fun e w' => e = .returned (.bool (allB l)) ∧ Below w.heap.size w w' := by
 rcases h with rfl | ⟨b, o, rfl, hlt, hc⟩
 ·go_enter Tryz.func189, Tryz.ntmps189
  go_wp2
  refine wp_loop_rounds 1 ?_
  rw [rounds_succ]; go_wp2
  go_ret
  exact ⟨rfl, Below.refl _ _⟩
 ·have HI := Lib.hid hc
  have HK := Lib.hid hok
  clear hc hok
  obtain ⟨N, hN⟩ : ∃ N, l.length = N := ⟨_, rfl⟩
  have HN := Lib.hid hN
  rw [hN] at hlen ⊢
  clear hN
  go_enter Tryz.func189, Tryz.ntmps189
  go_wp2
  go_loopw [4, 7] (fun _ i wr => ∃ k : Nat, i = .int .i64 (k : Int) ∧ k ≤ N ∧ AllTo l k ∧ Below w.heap.size w wr) (fun _ i _ => N - (intOf i).toNat)
  case atStart => exact ⟨0, rfl, by omega, AllTo.zero l, Below.refl _ _⟩
  case round =>
   obtain ⟨k, rfl, hk, hup, hb⟩ := hrel
   have HU := Lib.hid hup
   have hsz := hb.size
   clear hup
   by_cases hkn : k < N
   ·have hkl : k < l.length := by have := HN.out; omega
    have hcell := HI.out k _ (canAt_some hkl)
    have hg := canAt_ok HK.out hkl
    have HX := Lib.hid (@AllTo.next l k HU.out)
    have HF := Lib.hid (@allB_no l k hkl)
    generalize canAt l k = x at *
    obtain ⟨n, s⟩ := x
    obtain ⟨c0, c1⟩ := hcell
    have d0 : wr.cell? ⟨b, o + k * 2, none⟩ = some (.int .i64 n) := (hb.cell (p := ⟨b, _, none⟩) hlt).trans c0
    have d1 : wr.cell? ⟨b, o + k * 2 + 1, none⟩ = some (.string s) := (hb.cell (p := ⟨b, _, none⟩) hlt).trans c1
    have HC := fun W => Lib.hid (implCanRight_any n s W hg.1.1 hg.1.2 hg.2)
    have hbw : b < wr.heap.size := by omega
    clear c0 c1
    rcases hcb : canB n s
    ·rw [hcb] at HC
     go_wp2_with (go_at_call 66; refine (HC _).out.mono ?_; rintro e w1 ⟨rfl, h1⟩)
     go_ret
     exact ⟨by rw [HF.out hcb]; rfl, (hb.alloc hsz _).trans (h1.mono (by simp; omega))⟩
    ·rw [hcb] at HC
     go_wp2_with (go_at_call 66; refine (HC _).out.mono ?_; rintro e w1 ⟨rfl, h1⟩)
     go_roundw
     case rel => exact ⟨k + 1, by go_num, by omega, HX.out hcb, (hb.alloc hsz _).trans (h1.mono (by simp; omega))⟩
     case measure => simp [intOf]; omega
   ·have hge : N ≤ k := by omega
    have HO := Lib.hid (allB_yes (l := l) (by rw [show l.length = k by have := HN.out; omega]; exact HU.out))
    clear hkn
    go_wp2
    go_ret
    exact ⟨by rw [HO.out]; rfl, hb⟩

set_option maxHeartbeats 1000000 in
theorem specAll_any (a : Option Addr) (cap : Nat) (l : List (Int × ByteArray)) (w : World) (h : CansIn w a l) (hok : CansOk l) (hlen : l.length ≤ 1048576) :
  Calls Tryz.prog 153 #[.slice a l.length cap] w fun e w' => e = .returned (.bool (allB l)) ∧ Below w.heap.size w w' := by
 rcases h with rfl | ⟨b, o, rfl, hlt, hc⟩
 ·go_enter Tryz.func153, Tryz.ntmps153
  go_wp2
  refine wp_loop_rounds 1 ?_
  rw [rounds_succ]; go_wp2
  go_ret
  exact ⟨rfl, Below.refl _ _⟩
 ·have HI := Lib.hid hc
  have HK := Lib.hid hok
  clear hc hok
  obtain ⟨N, hN⟩ : ∃ N, l.length = N := ⟨_, rfl⟩
  have HN := Lib.hid hN
  rw [hN] at hlen ⊢
  clear hN
  go_enter Tryz.func153, Tryz.ntmps153
  go_wp2
  go_loopw [3] (fun i wr => ∃ k : Nat, i = .int .i64 (k : Int) ∧ k ≤ N ∧ AllTo l k ∧ Below w.heap.size w wr) (fun i _ => N - (intOf i).toNat)
  case atStart => exact ⟨0, rfl, by omega, AllTo.zero l, Below.refl _ _⟩
  case round =>
   obtain ⟨k, rfl, hk, hup, hb⟩ := hrel
   have HU := Lib.hid hup
   have hsz := hb.size
   clear hup
   by_cases hkn : k < N
   ·have hkl : k < l.length := by have := HN.out; omega
    have hcell := HI.out k _ (canAt_some hkl)
    have hg := canAt_ok HK.out hkl
    have HX := Lib.hid (@AllTo.next l k HU.out)
    have HF := Lib.hid (@allB_no l k hkl)
    generalize canAt l k = x at *
    obtain ⟨n, s⟩ := x
    obtain ⟨c0, c1⟩ := hcell
    have d0 : wr.cell? ⟨b, o + k * 2, none⟩ = some (.int .i64 n) := (hb.cell (p := ⟨b, _, none⟩) hlt).trans c0
    have d1 : wr.cell? ⟨b, o + k * 2 + 1, none⟩ = some (.string s) := (hb.cell (p := ⟨b, _, none⟩) hlt).trans c1
    have HC := fun W => Lib.hid (specCanRight_any n s W hg.1.1 hg.1.2 hg.2)
    have hbw : b < wr.heap.size := by omega
    clear c0 c1
    rcases hcb : canB n s
    ·rw [hcb] at HC
     go_wp2_with (go_at_call 63; refine (HC _).out.mono ?_; rintro e w1 ⟨rfl, h1⟩)
     go_ret
     exact ⟨by rw [HF.out hcb]; rfl, hb.trans (h1.mono (by omega))⟩
    ·rw [hcb] at HC
     go_wp2_with (go_at_call 63; refine (HC _).out.mono ?_; rintro e w1 ⟨rfl, h1⟩)
     go_roundw
     case rel => exact ⟨k + 1, by go_num, by omega, HX.out hcb, hb.trans (h1.mono (by omega))⟩
     case measure => simp [intOf]; omega
   ·have hge : N ≤ k := by omega
    have HO := Lib.hid (allB_yes (l := l) (by rw [show l.length = k by have := HN.out; omega]; exact HU.out))
    clear hkn
    go_wp2
    go_ret
    exact ⟨by rw [HO.out]; rfl, hb⟩
end Go.Proofs.YtioldepgoodipaaGreat
namespace Go.Proofs.YtioldepgoodipaaGreat
open Go.RowKit
set_option linter.unusedVariables false

structure Nm where (u : Int) (m : Int) (i : Int) (f : Int) (c : Int) (s : Int) (y : Int) (a : Bool)
def nmV (n : Nm) : Value := .agg #[.int .i64 n.u, .int .i64 n.m, .int .i64 n.i, .int .i64 n.f, .int .i64 n.c, .int .i64 n.s, .int .i64 n.y, .bool n.a]
def okB (n : Nm) : Bool := inB 0 2097151 n.u && inB 0 2047 n.m && inB 0 255 n.i && inB 0 255 n.f && inB 0 127 n.c && inB 0 15 n.s && inB 0 7 n.y
theorem okB_of {n : Nm} (h : okB n = true) : (0 ≤ n.u ∧ n.u ≤ 2097151) ∧ (0 ≤ n.m ∧ n.m ≤ 2047) ∧ (0 ≤ n.i ∧ n.i ≤ 255) ∧ (0 ≤ n.f ∧ n.f ≤ 255) ∧ (0 ≤ n.c ∧ n.c ≤ 127) ∧ (0 ≤ n.s ∧ n.s ≤ 15) ∧ (0 ≤ n.y ∧ n.y ≤ 7) := by
 simp only [okB, Bool.and_eq_true] at h
 exact ⟨inB_of h.1.1.1.1.1.1, inB_of h.1.1.1.1.1.2, inB_of h.1.1.1.1.2, inB_of h.1.1.1.2, inB_of h.1.1.2, inB_of h.1.2, inB_of h.2⟩
def nmK (n : Nm) : Int := n.u + 2097152 * n.m
def nmT (n : Nm) : Int := n.s + 16 * n.y + if n.a = true then 128 else 0
theorem nmK_bounds {n : Nm} (h : okB n = true) : 0 ≤ nmK n ∧ nmK n ≤ 4294967295 := by
 have := okB_of h
 unfold nmK
 omega
theorem nmT_bounds {n : Nm} (h : okB n = true) : 0 ≤ nmT n ∧ nmT n ≤ 255 := by
 have := okB_of h
 unfold nmT
 split <;> omega
def nmI (n : Nm) : List Int := [nmK n % 256, nmK n / 256 % 256, nmK n / 65536 % 256, nmK n / 16777216, n.i, n.f, 2 * n.c, nmT n]
def nmL (n : Nm) : List UInt8 := (nmI n).map fun x => UInt8.ofNat x.toNat
theorem nmL_len (n : Nm) : (nmL n).length = 8 := rfl
def nmBytes (n : Nm) : List UInt8 := if okB n = true then nmL n else []
theorem nmL_cells {n : Nm} (h : okB n = true) : bcells (nmL n) = [.int .u8 (nmK n % 256), .int .u8 (nmK n / 256 % 256), .int .u8 (nmK n / 65536 % 256), .int .u8 (nmK n / 16777216), .int .u8 n.i, .int .u8 n.f, .int .u8 (2 * n.c), .int .u8 (nmT n)] := by
 have hk := nmK_bounds h
 have ht := nmT_bounds h
 have h := okB_of h
 simp [bcells, nmL, nmI]
 omega

set_option maxHeartbeats 1000000 in
theorem specNameOk_any (n : Nm) (w : World) :
  Calls Tryz.prog 151 #[nmV n] w fun e w' => e = .returned (.bool (okB n)) ∧ Below w.heap.size w w' := by
 obtain ⟨u, m, i, f, c, s, y, a⟩ := n
 unfold nmV
 dsimp only
 rcases h1 : inB 0 2097151 u
 ·go_enter Tryz.func151, Tryz.ntmps151
  go_wp2_with (go_at_call 82; refine (l02Is_any _ _ _ _).mono ?_; (first | rw [h1] | rw [h2] | rw [h3] | rw [h4] | rw [h5] | rw [h6] | rw [h7]); rintro e w' ⟨rfl, rfl⟩)
  go_ret
  exact ⟨by simp [okB, h1], (Below.refl _ _).alloc (Nat.le_refl _) _⟩
 rcases h2 : inB 0 2047 m
 ·go_enter Tryz.func151, Tryz.ntmps151
  go_wp2_with (go_at_call 82; refine (l02Is_any _ _ _ _).mono ?_; (first | rw [h1] | rw [h2] | rw [h3] | rw [h4] | rw [h5] | rw [h6] | rw [h7]); rintro e w' ⟨rfl, rfl⟩)
  go_ret
  exact ⟨by simp [okB, h1, h2], (Below.refl _ _).alloc (Nat.le_refl _) _⟩
 rcases h3 : inB 0 255 i
 ·go_enter Tryz.func151, Tryz.ntmps151
  go_wp2_with (go_at_call 82; refine (l02Is_any _ _ _ _).mono ?_; (first | rw [h1] | rw [h2] | rw [h3] | rw [h4] | rw [h5] | rw [h6] | rw [h7]); rintro e w' ⟨rfl, rfl⟩)
  go_ret
  exact ⟨by simp [okB, h1, h2, h3], (Below.refl _ _).alloc (Nat.le_refl _) _⟩
 rcases h4 : inB 0 255 f
 ·go_enter Tryz.func151, Tryz.ntmps151
  go_wp2_with (go_at_call 82; refine (l02Is_any _ _ _ _).mono ?_; (first | rw [h1] | rw [h2] | rw [h3] | rw [h4] | rw [h5] | rw [h6] | rw [h7]); rintro e w' ⟨rfl, rfl⟩)
  go_ret
  exact ⟨by simp [okB, h1, h2, h3, h4], (Below.refl _ _).alloc (Nat.le_refl _) _⟩
 rcases h5 : inB 0 127 c
 ·go_enter Tryz.func151, Tryz.ntmps151
  go_wp2_with (go_at_call 82; refine (l02Is_any _ _ _ _).mono ?_; (first | rw [h1] | rw [h2] | rw [h3] | rw [h4] | rw [h5] | rw [h6] | rw [h7]); rintro e w' ⟨rfl, rfl⟩)
  go_ret
  exact ⟨by simp [okB, h1, h2, h3, h4, h5], (Below.refl _ _).alloc (Nat.le_refl _) _⟩
 rcases h6 : inB 0 15 s
 ·go_enter Tryz.func151, Tryz.ntmps151
  go_wp2_with (go_at_call 82; refine (l02Is_any _ _ _ _).mono ?_; (first | rw [h1] | rw [h2] | rw [h3] | rw [h4] | rw [h5] | rw [h6] | rw [h7]); rintro e w' ⟨rfl, rfl⟩)
  go_ret
  exact ⟨by simp [okB, h1, h2, h3, h4, h5, h6], (Below.refl _ _).alloc (Nat.le_refl _) _⟩
 rcases h7 : inB 0 7 y
 ·go_enter Tryz.func151, Tryz.ntmps151
  go_wp2_with (go_at_call 82; refine (l02Is_any _ _ _ _).mono ?_; (first | rw [h1] | rw [h2] | rw [h3] | rw [h4] | rw [h5] | rw [h6] | rw [h7]); rintro e w' ⟨rfl, rfl⟩)
  go_ret
  exact ⟨by simp [okB, h1, h2, h3, h4, h5, h6, h7], (Below.refl _ _).alloc (Nat.le_refl _) _⟩
 go_enter Tryz.func151, Tryz.ntmps151
 go_wp2_with (go_at_call 82; refine (l02Is_any _ _ _ _).mono ?_; (first | rw [h1] | rw [h2] | rw [h3] | rw [h4] | rw [h5] | rw [h6] | rw [h7]); rintro e w' ⟨rfl, rfl⟩)
 go_ret
 exact ⟨by simp [okB, h1, h2, h3, h4, h5, h6, h7], (Below.refl _ _).alloc (Nat.le_refl _) _⟩

set_option maxHeartbeats 1000000 in
theorem implNameOk_any (n : Nm) (w : World) :
  Calls Tryz.prog 186 #[nmV n] w fun e w' => e = .returned (.bool (okB n)) ∧ Below w.heap.size w w' := by
 obtain ⟨u, m, i, f, c, s, y, a⟩ := n
 unfold nmV
 dsimp only
 rcases h1 : inB 0 2097151 u
 ·go_enter Tryz.func186, Tryz.ntmps186
  go_wp2_with (go_at_call 131; refine (from0_any _ _ _).mono ?_; (first | rw [h1] | rw [h2] | rw [h3] | rw [h4] | rw [h5] | rw [h6] | rw [h7]); rintro e w' ⟨rfl, rfl⟩)
  go_ret
  exact ⟨by simp [okB, h1], (Below.refl _ _).alloc (Nat.le_refl _) _⟩
 rcases h2 : inB 0 2047 m
 ·go_enter Tryz.func186, Tryz.ntmps186
  go_wp2_with (go_at_call 131; refine (from0_any _ _ _).mono ?_; (first | rw [h1] | rw [h2] | rw [h3] | rw [h4] | rw [h5] | rw [h6] | rw [h7]); rintro e w' ⟨rfl, rfl⟩)
  go_ret
  exact ⟨by simp [okB, h1, h2], (Below.refl _ _).alloc (Nat.le_refl _) _⟩
 rcases h3 : inB 0 255 i
 ·go_enter Tryz.func186, Tryz.ntmps186
  go_wp2_with (go_at_call 131; refine (from0_any _ _ _).mono ?_; (first | rw [h1] | rw [h2] | rw [h3] | rw [h4] | rw [h5] | rw [h6] | rw [h7]); rintro e w' ⟨rfl, rfl⟩)
  go_ret
  exact ⟨by simp [okB, h1, h2, h3], (Below.refl _ _).alloc (Nat.le_refl _) _⟩
 rcases h4 : inB 0 255 f
 ·go_enter Tryz.func186, Tryz.ntmps186
  go_wp2_with (go_at_call 131; refine (from0_any _ _ _).mono ?_; (first | rw [h1] | rw [h2] | rw [h3] | rw [h4] | rw [h5] | rw [h6] | rw [h7]); rintro e w' ⟨rfl, rfl⟩)
  go_ret
  exact ⟨by simp [okB, h1, h2, h3, h4], (Below.refl _ _).alloc (Nat.le_refl _) _⟩
 rcases h5 : inB 0 127 c
 ·go_enter Tryz.func186, Tryz.ntmps186
  go_wp2_with (go_at_call 131; refine (from0_any _ _ _).mono ?_; (first | rw [h1] | rw [h2] | rw [h3] | rw [h4] | rw [h5] | rw [h6] | rw [h7]); rintro e w' ⟨rfl, rfl⟩)
  go_ret
  exact ⟨by simp [okB, h1, h2, h3, h4, h5], (Below.refl _ _).alloc (Nat.le_refl _) _⟩
 rcases h6 : inB 0 15 s
 ·go_enter Tryz.func186, Tryz.ntmps186
  go_wp2_with (go_at_call 131; refine (from0_any _ _ _).mono ?_; (first | rw [h1] | rw [h2] | rw [h3] | rw [h4] | rw [h5] | rw [h6] | rw [h7]); rintro e w' ⟨rfl, rfl⟩)
  go_ret
  exact ⟨by simp [okB, h1, h2, h3, h4, h5, h6], (Below.refl _ _).alloc (Nat.le_refl _) _⟩
 rcases h7 : inB 0 7 y
 ·go_enter Tryz.func186, Tryz.ntmps186
  go_wp2_with (go_at_call 131; refine (from0_any _ _ _).mono ?_; (first | rw [h1] | rw [h2] | rw [h3] | rw [h4] | rw [h5] | rw [h6] | rw [h7]); rintro e w' ⟨rfl, rfl⟩)
  go_ret
  exact ⟨by simp [okB, h1, h2, h3, h4, h5, h6, h7], (Below.refl _ _).alloc (Nat.le_refl _) _⟩
 go_enter Tryz.func186, Tryz.ntmps186
 go_wp2_with (go_at_call 131; refine (from0_any _ _ _).mono ?_; (first | rw [h1] | rw [h2] | rw [h3] | rw [h4] | rw [h5] | rw [h6] | rw [h7]); rintro e w' ⟨rfl, rfl⟩)
 go_ret
 exact ⟨by simp [okB, h1, h2, h3, h4, h5, h6, h7], (Below.refl _ _).alloc (Nat.le_refl _) _⟩

end Go.Proofs.YtioldepgoodipaaGreat
namespace Go.Proofs.YtioldepgoodipaaGreat
open Go.RowKit Go.ChangeShapes Go.WideShapes Go.ChangeAt Go.Joins
set_option linter.unusedVariables false

def I64 (n : Int) : Prop := -9223372036854775808 ≤ n ∧ n ≤ 9223372036854775807
theorem I64.of_wf {n : Int} (h : (Lit.int .i64 n).wf = true) : I64 n := by
 simp [Lit.wf, IntKind.min, IntKind.max, IntKind.signed, IntKind.bits] at h
 unfold I64
 omega
def IsI64 (v : Value) : Prop := ∃ n, v = .int .i64 n ∧ I64 n
def IsStr (v : Value) : Prop := ∃ s : ByteArray, v = .string s ∧ s.size ≤ maxLen
theorem list_of {α : Type} {P : Nat → α → Prop} : ∀ n, (∀ i, i < n → ∃ x, P i x) → ∃ l : List α, l.length = n ∧ ∀ i x, l[i]? = some x → P i x
 | 0, _ => ⟨[], rfl, fun i x h => by simp at h⟩
 | n + 1, h => by
  obtain ⟨l, hl, hp⟩ := list_of n fun i hi => h i (by omega)
  obtain ⟨x, hx⟩ := h n (by omega)
  refine ⟨l ++ [x], by simp [hl], fun i y hy => ?_⟩
  rcases Nat.lt_or_ge i n with h' | h'
  ·rw [List.getElem?_append_left (by omega)] at hy
   exact hp i y hy
  ·have hi : i < (l ++ [x]).length := (List.getElem?_eq_some_iff.1 hy).1
   have hin : i = n := by simp at hi; omega
   subst hin
   rw [List.getElem?_append_right (by omega), hl] at hy
   simp at hy
   subst hy
   exact hx
section
variable {H : Type} {enc : TypeId × Value → H} {w : World} {base : Nat} {spare : Nat → Bool} {held : Bool} {b0 : Nat} {r : Reach} {v : Value} {d : DataW H} {ps : List MemPlace}
set_option maxRecDepth 100000 in
theorem open_I64 {t : TypeId} (ht : Tryz.prog.underlying t = some (.int .i64)) (hv : Value.okWide Tryz.prog w r b0 t v) (h : DataW.Trod enc Tryz.prog w base spare held t v d ps) : IsI64 v := by
 obtain ⟨a, rfl, _, _, w0⟩ := open_int ht hv h
 exact ⟨a, rfl, .of_wf w0⟩
def IsCan (v : Value) : Prop := ∃ n, ∃ s : ByteArray, v = .agg #[.int .i64 n, .string s] ∧ I64 n ∧ s.size ≤ maxLen
theorem cells_Can : Tryz.prog.cellsOf 63 = 2 := by kernel_rfl
theorem cells_int64 : Tryz.prog.cellsOf 2 = 1 := by kernel_rfl
theorem cells_str : Tryz.prog.cellsOf 9 = 1 := by kernel_rfl
theorem cells_num : Tryz.prog.cellsOf 2 = 1 := by kernel_rfl
set_option maxRecDepth 100000 in
theorem nums_of_trod {fuel : Nat} {cs : List Value} {x : DataW H × List MemPlace} (hf : DataW.trod enc Tryz.prog w base spare held fuel 24 cs = some x) :
  ∃ (a : Option Addr) (cap : Nat) (l : List Int), cs = [.slice a l.length cap] ∧ NumsIn w a l ∧ Nums64 l ∧ l.length ≤ maxLen := by
 rcases DataW.trod_slice Tryz.underlying24 hf with ⟨hcs, _⟩ | ⟨a', len', cap', elems, rest, n, _, hcs, _, hb, hl, hm, hlen, hel, _, _⟩
 ·subst hcs
  exact ⟨none, 0, [], rfl, .inl rfl, (by intro x hx; cases hx), by simp⟩
 ·subst hcs
  have each : ∀ i, i < len' → ∃ x : Int, I64 x ∧ a'.block < w.heap.size ∧ w.cell? ((a'.add (i * 1)).add 0) = some (.int .i64 x) := by
   intro i hi
   have := hel i hi
   rw [List.getElem?_eq_getElem (by omega), Option.bind_eq_some_iff, cells_num] at this
   obtain ⟨cs', hcs, hy⟩ := this
   obtain ⟨p, e0, _, wp⟩ := DataW.trod_int Tryz.underlying2 hy
   have hbk := World.cells?_block hcs (by omega)
   obtain ⟨_, hl2, hq⟩ := World.cells?_some hcs
   subst e0
   refine ⟨p, .of_wf wp, ?_, hq 0 (by omega)⟩
   have : (a'.add (i * 1)).block = a'.block := by unfold Addr.add; split <;> rfl
   rwa [this] at hbk
  obtain ⟨l, hl, hp⟩ := list_of len' each
  subst hl
  refine ⟨some a', cap', l, rfl, ?_, ?_, by omega⟩
  ·rcases l with _ | ⟨x0, l⟩
   ·exact .inl rfl
   right
   have h0 := hp 0 x0 rfl
   obtain ⟨b, o, sp⟩ := a'
   have hsp : sp = none := by simpa [Addr.add] using World.cell?_spot h0.2.2
   subst hsp
   have hadd : ∀ i, (⟨b, o, none⟩ : Addr).add i = ⟨b, o + i, none⟩ := fun i => by unfold Addr.add; split <;> simp_all
   refine ⟨b, o, rfl, h0.2.1, fun i x hx => ?_⟩
   have := hp i x hx
   rw [hadd] at this
   simpa [Addr.add] using this.2.2
  ·intro x hx
   obtain ⟨i, hi⟩ := List.getElem?_of_mem hx
   exact (hp i x hi).1
def IsNm (v : Value) : Prop := ∃ n : Nm, v = nmV n ∧ I64 n.u ∧ I64 n.m ∧ I64 n.i ∧ I64 n.f ∧ I64 n.c ∧ I64 n.s ∧ I64 n.y
theorem cells_Nm : Tryz.prog.cellsOf 23 = 8 := by kernel_rfl
theorem cells_nmInt : Tryz.prog.cellsOf 2 = 1 := by kernel_rfl
theorem cells_nmBool : Tryz.prog.cellsOf 4 = 1 := by kernel_rfl
theorem list8 {α : Type} {l : List α} (h : l.length = 8) : ∃ x0 x1 x2 x3 x4 x5 x6 x7, l = [x0, x1, x2, x3, x4, x5, x6, x7] := by
 match l, h with
 | [x0, x1, x2, x3, x4, x5, x6, x7], _ => exact ⟨x0, x1, x2, x3, x4, x5, x6, x7, rfl⟩
set_option maxRecDepth 100000 in
theorem nm_of_trod {fuel : Nat} {c0 c1 c2 c3 c4 c5 c6 c7 : Value} {x : DataW H × List MemPlace} (hf : DataW.trod enc Tryz.prog w base spare held fuel 23 [c0, c1, c2, c3, c4, c5, c6, c7] = some x) :
  ∃ n : Nm, c0 = .int .i64 n.u ∧ c1 = .int .i64 n.m ∧ c2 = .int .i64 n.i ∧ c3 = .int .i64 n.f ∧ c4 = .int .i64 n.c ∧ c5 = .int .i64 n.s ∧ c6 = .int .i64 n.y ∧ c7 = .bool n.a ∧ I64 n.u ∧ I64 n.m ∧ I64 n.i ∧ I64 n.f ∧ I64 n.c ∧ I64 n.s ∧ I64 n.y := by
 obtain ⟨xs, n, _, _, _, hlen, hall⟩ := DataW.trod_struct Tryz.underlying23 hf
 obtain ⟨y0, y1, y2, y3, y4, y5, y6, y7, rfl⟩ := list8 (by simpa using hlen)
 have h0 := hall 0 _ rfl
 have h1 := hall 1 _ rfl
 have h2 := hall 2 _ rfl
 have h3 := hall 3 _ rfl
 have h4 := hall 4 _ rfl
 have h5 := hall 5 _ rfl
 have h6 := hall 6 _ rfl
 have h7 := hall 7 _ rfl
 clear hall hf hlen
 obtain ⟨a0, e0, _, w0⟩ := DataW.trod_int Tryz.underlying2 h0
 obtain ⟨a1, e1, _, w1⟩ := DataW.trod_int Tryz.underlying2 h1
 obtain ⟨a2, e2, _, w2⟩ := DataW.trod_int Tryz.underlying2 h2
 obtain ⟨a3, e3, _, w3⟩ := DataW.trod_int Tryz.underlying2 h3
 obtain ⟨a4, e4, _, w4⟩ := DataW.trod_int Tryz.underlying2 h4
 obtain ⟨a5, e5, _, w5⟩ := DataW.trod_int Tryz.underlying2 h5
 obtain ⟨a6, e6, _, w6⟩ := DataW.trod_int Tryz.underlying2 h6
 obtain ⟨a7, e7, _⟩ := DataW.trod_bool Tryz.underlying4 h7
 simp [cells_nmInt, cells_nmBool] at e0 e1 e2 e3 e4 e5 e6 e7
 exact ⟨⟨a0, a1, a2, a3, a4, a5, a6, a7⟩, e0, e1, e2, e3, e4, e5, e6, e7, .of_wf w0, .of_wf w1, .of_wf w2, .of_wf w3, .of_wf w4, .of_wf w5, .of_wf w6⟩
def IsCl (w : World) (v : Value) : Prop := ∃ (n : Nm) (ad st lf : Int) (a : Option Addr) (cap : Nat) (l : List Int), v = .agg #[.int .i64 n.u, .int .i64 n.m, .int .i64 n.i, .int .i64 n.f, .int .i64 n.c, .int .i64 n.s, .int .i64 n.y, .bool n.a, .int .i64 ad, .int .i64 st, .int .i64 lf, .slice a l.length cap] ∧ I64 ad ∧ I64 st ∧ I64 lf ∧ NumsIn w a l ∧ Nums64 l ∧ l.length ≤ maxLen
theorem cells_Cl : Tryz.prog.cellsOf 26 = 12 := by kernel_rfl
theorem cells_nums : Tryz.prog.cellsOf 24 = 1 := by kernel_rfl
theorem list5 {α : Type} {l : List α} (h : l.length = 5) : ∃ x0 x1 x2 x3 x4, l = [x0, x1, x2, x3, x4] := by
 match l, h with
 | [x0, x1, x2, x3, x4], _ => exact ⟨x0, x1, x2, x3, x4, rfl⟩
theorem list12 {α : Type} {l : List α} (h : l.length = 12) : ∃ x0 x1 x2 x3 x4 x5 x6 x7 x8 x9 y0 y1, l = [x0, x1, x2, x3, x4, x5, x6, x7, x8, x9, y0, y1] := by
 match l, h with
 | [x0, x1, x2, x3, x4, x5, x6, x7, x8, x9, y0, y1], _ => exact ⟨x0, x1, x2, x3, x4, x5, x6, x7, x8, x9, y0, y1, rfl⟩
def IsCans (w : World) (v : Value) : Prop := ∃ (a : Option Addr) (cap : Nat) (l : List (Int × ByteArray)), v = .slice a l.length cap ∧ CansIn w a l ∧ CansOk l ∧ l.length ≤ maxLen
set_option maxRecDepth 100000 in
theorem cans_of_trod {fuel : Nat} {cs : List Value} {x : DataW H × List MemPlace} (hf : DataW.trod enc Tryz.prog w base spare held fuel 27 cs = some x) :
  ∃ (a : Option Addr) (cap : Nat) (l : List (Int × ByteArray)), cs = [.slice a l.length cap] ∧ CansIn w a l ∧ CansOk l ∧ l.length ≤ maxLen := by
 rcases DataW.trod_slice Tryz.underlying27 hf with ⟨hcs, _⟩ | ⟨a', len', cap', elems, rest, n, _, hcs, _, hb, hl, hm, hlen, hel, _, _⟩
 ·subst hcs
  exact ⟨none, 0, [], rfl, .inl rfl, (by intro x hx; cases hx), by simp⟩
 ·subst hcs
  have each : ∀ i, i < len' → ∃ x : Int × ByteArray, (I64 x.1 ∧ x.2.size ≤ maxLen) ∧ a'.block < w.heap.size ∧ w.cell? ((a'.add (i * 2)).add 0) = some (.int .i64 x.1) ∧ w.cell? ((a'.add (i * 2)).add 1) = some (.string x.2) := by
   intro i hi
   have := hel i hi
   rw [List.getElem?_eq_getElem (by omega), Option.bind_eq_some_iff, cells_Can] at this
   obtain ⟨cs', hcs, hy⟩ := this
   obtain ⟨y0, y1, n', hx, _, h0, h1⟩ := trod_struct2 Tryz.underlying63 hy
   obtain ⟨p, e0, _, wp⟩ := DataW.trod_int Tryz.underlying2 h0
   obtain ⟨s, e1, _, ws⟩ := DataW.trod_string Tryz.underlying9 h1
   have hq := World.cells?_some hcs
   have hbk := World.cells?_block hcs (by omega)
   obtain ⟨_, hl2, hq⟩ := hq
   match cs', hl2 with
   | [u0, u1], _ =>
    simp [cells_int64, cells_str] at e0 e1
    subst e0 e1
    refine ⟨(p, s), ⟨.of_wf wp, ws⟩, ?_, hq 0 (by omega), hq 1 (by omega)⟩
    have : (a'.add (i * 2)).block = a'.block := by unfold Addr.add; split <;> rfl
    rwa [this] at hbk
  obtain ⟨l, hl, hp⟩ := list_of len' each
  subst hl
  refine ⟨some a', cap', l, rfl, ?_, ?_, by omega⟩
  ·rcases l with _ | ⟨x0, l⟩
   ·exact .inl rfl
   right
   have h0 := hp 0 x0 rfl
   obtain ⟨b, o, sp⟩ := a'
   have hsp : sp = none := by simpa [Addr.add] using World.cell?_spot h0.2.2.1
   subst hsp
   have hadd : ∀ i, (⟨b, o, none⟩ : Addr).add i = ⟨b, o + i, none⟩ := fun i => by unfold Addr.add; split <;> simp_all
   refine ⟨b, o, rfl, h0.2.1, fun i x hx => ?_⟩
   have := hp i x hx
   rw [hadd] at this
   have h1 : (⟨b, o + i * 2, none⟩ : Addr).add 1 = ⟨b, o + i * 2 + 1, none⟩ := by unfold Addr.add; simp
   rw [h1] at this
   exact ⟨this.2.2.1, this.2.2.2⟩
  ·intro x hx
   obtain ⟨i, hi⟩ := List.getElem?_of_mem hx
   exact (hp i x hi).1
def IsQueue (w : World) (v : Value) : Prop := ∃ (a : Option Addr) (cap : Nat) (l : List (Int × ByteArray)), v = .agg #[.slice a l.length cap] ∧ CansIn w a l ∧ CansOk l ∧ l.length ≤ maxLen
theorem cells_Queue : Tryz.prog.cellsOf 29 = 1 := by kernel_rfl
theorem cells_CanS : Tryz.prog.cellsOf 27 = 1 := by kernel_rfl
end
end Go.Proofs.YtioldepgoodipaaGreat
namespace Go.Proofs.YtioldepgoodipaaGreat
open Go.RowKit Go.ChangeShapes Go.WideShapes Go.ChangeAt Go.Joins
set_option linter.unusedVariables false
section
variable {H : Type} {enc : TypeId × Value → H} {w : World} {base : Nat} {spare : Nat → Bool} {held : Bool} {b0 : Nat} {r : Reach} {v : Value} {d : DataW H} {ps : List MemPlace}
def IsSes (w : World) (v : Value) : Prop := ∃ (a : Option Addr) (cap : Nat) (l : List Se), v = .slice a l.length cap ∧ RsIn seL 7 w a l ∧ SesOk l ∧ l.length ≤ maxLen
theorem cells_Se : Tryz.prog.cellsOf 135 = 7 := by kernel_rfl
theorem cells_seInt : Tryz.prog.cellsOf 2 = 1 := by kernel_rfl
theorem cells_seStr : Tryz.prog.cellsOf 9 = 1 := by kernel_rfl
theorem list7 {α : Type} {l : List α} (h : l.length = 7) : ∃ x0 x1 x2 x3 x4 x5 x6, l = [x0, x1, x2, x3, x4, x5, x6] := by
 match l, h with
 | [x0, x1, x2, x3, x4, x5, x6], _ => exact ⟨x0, x1, x2, x3, x4, x5, x6, rfl⟩
set_option maxRecDepth 100000 in
theorem se_of_trod {fuel : Nat} {cs : List Value} {x : DataW H × List MemPlace} (hl : cs.length = 7) (hf : DataW.trod enc Tryz.prog w base spare held fuel 135 cs = some x) :
  ∃ y : Se, cs = seL y ∧ SeOk y := by
 obtain ⟨c0, c1, c2, c3, c4, c5, c6, rfl⟩ := list7 hl
 obtain ⟨xs, n, _, _, _, hlen, hall⟩ := DataW.trod_struct Tryz.underlying135 hf
 obtain ⟨y0, y1, y2, y3, y4, y5, y6, rfl⟩ := list7 (by simpa using hlen)
 have h0 := hall 0 _ rfl
 have h1 := hall 1 _ rfl
 have h2 := hall 2 _ rfl
 have h3 := hall 3 _ rfl
 have h4 := hall 4 _ rfl
 have h5 := hall 5 _ rfl
 have h6 := hall 6 _ rfl
 clear hall hf hlen
 obtain ⟨a0, e0, _, w0⟩ := DataW.trod_int Tryz.underlying2 h0
 obtain ⟨a1, e1, _, w1⟩ := DataW.trod_int Tryz.underlying2 h1
 obtain ⟨a2, e2, _, w2⟩ := DataW.trod_int Tryz.underlying2 h2
 obtain ⟨a3, e3, _, w3⟩ := DataW.trod_int Tryz.underlying2 h3
 obtain ⟨a4, e4, _, w4⟩ := DataW.trod_int Tryz.underlying2 h4
 obtain ⟨a5, e5, _, w5⟩ := DataW.trod_string Tryz.underlying9 h5
 obtain ⟨a6, e6, _, w6⟩ := DataW.trod_int Tryz.underlying2 h6
 simp [cells_seInt, cells_seStr] at e0 e1 e2 e3 e4 e5 e6
 subst e0 e1 e2 e3 e4 e5 e6
 exact ⟨⟨a0, a1, a2, a3, a4, a5, a6⟩, rfl, I64.of_wf w0, I64.of_wf w1, I64.of_wf w2, I64.of_wf w3, I64.of_wf w4, w5, I64.of_wf w6⟩
set_option maxRecDepth 100000 in
theorem ses_of_trod {fuel : Nat} {cs : List Value} {x : DataW H × List MemPlace} (hf : DataW.trod enc Tryz.prog w base spare held fuel 30 cs = some x) :
  ∃ (a : Option Addr) (cap : Nat) (l : List Se), cs = [.slice a l.length cap] ∧ RsIn seL 7 w a l ∧ SesOk l ∧ l.length ≤ maxLen := by
 rcases DataW.trod_slice Tryz.underlying30 hf with ⟨hcs, _⟩ | ⟨a', len', cap', elems, rest, n, _, hcs, _, hb, hl, hm, hlen, hel, _, _⟩
 ·subst hcs
  exact ⟨none, 0, [], rfl, .inl rfl, (by intro x hx; cases hx), by simp⟩
 ·subst hcs
  have each : ∀ i, i < len' → ∃ x : Se, SeOk x ∧ a'.block < w.heap.size ∧ ∀ (j : Nat) v, (seL x)[j]? = some v → w.cell? ((a'.add (i * 7)).add j) = some v := by
   intro i hi
   have := hel i hi
   rw [List.getElem?_eq_getElem (by omega), Option.bind_eq_some_iff, cells_Se] at this
   obtain ⟨cs', hcs, hy⟩ := this
   have hbk := World.cells?_block hcs (by omega)
   obtain ⟨_, hl2, hq⟩ := World.cells?_some hcs
   obtain ⟨x, rfl, hx⟩ := se_of_trod hl2 hy
   refine ⟨x, hx, ?_, fun j v hv => ?_⟩
   ·have : (a'.add (i * 7)).block = a'.block := by unfold Addr.add; split <;> rfl
    rwa [this] at hbk
   ·have hj := (List.getElem?_eq_some_iff.1 hv).1
    rw [hl2] at hj
    have := hq j hj
    rwa [hv] at this
  obtain ⟨l, hl, hp⟩ := list_of len' each
  subst hl
  refine ⟨some a', cap', l, rfl, ?_, ?_, by omega⟩
  ·rcases l with _ | ⟨x0, l⟩
   ·exact .inl rfl
   right
   have h0 := hp 0 x0 rfl
   obtain ⟨b, o, sp⟩ := a'
   have hsp : sp = none := by simpa [Addr.add] using World.cell?_spot (h0.2.2 0 _ rfl)
   subst hsp
   have hadd : ∀ b o i, (⟨b, o, none⟩ : Addr).add i = ⟨b, o + i, none⟩ := fun b o i => by unfold Addr.add; split <;> simp_all
   refine ⟨b, o, rfl, h0.2.1, fun i x hx j v hv => ?_⟩
   have := (hp i x hx).2.2 j v hv
   rwa [hadd, hadd] at this
  ·intro x hx
   obtain ⟨i, hi⟩ := List.getElem?_of_mem hx
   exact (hp i x hi).1
end
end Go.Proofs.YtioldepgoodipaaGreat
namespace Go.Proofs.YtioldepgoodipaaGreat
open Go.RowKit
set_option linter.unusedVariables false

def OwnIn {α : Type} (c : α → List Value) (s : Nat) (e : TypeId) (lo hi : Nat) (w : World) (v : Value) (l : List α) : Prop :=
 w.ownsRow lo e s v l.length (l.flatMap c) ∧ ∀ k, v.ownBlock = some k → k < hi
section
variable {α : Type} {c : α → List Value} {s : Nat} {e : TypeId} {lo hi lo' hi' : Nat} {w w' : World} {v : Value} {l : List α}
theorem OwnIn.none (w : World) : OwnIn c s e lo hi w (.slice none 0 0) ([] : List α) := ⟨World.ownsRow_nil _ _ _ _, fun k h => by cases h⟩
theorem OwnIn.solid (h : OwnIn c s e lo hi w v l) : Solid lo hi (fun W => OwnIn c s e lo hi W v l) w := by
 intro W' _ hk
 obtain ⟨⟨h0, h1⟩, h2⟩ := h
 refine ⟨⟨h0, ?_⟩, h2⟩
 rcases h1 with h1 | ⟨g, cap, cur, rfl, hb, hg, k⟩
 ·exact .inl h1
 ·exact .inr ⟨g, cap, cur, rfl, hb, (hk g hb (h2 g rfl)).trans hg, k⟩
theorem OwnIn.kept (h : OwnIn c s e lo hi w v l) (hb : Below w.heap.size w w') : OwnIn c s e lo hi w' v l := by
 obtain ⟨⟨h0, h1⟩, h2⟩ := h
 refine ⟨⟨h0, ?_⟩, h2⟩
 rcases h1 with h1 | ⟨g, cap, cur, rfl, hb', hg, k⟩
 ·exact .inl h1
 ·exact .inr ⟨g, cap, cur, rfl, hb', (hb.block g (Array.getElem?_eq_some_iff.1 hg).1).trans hg, k⟩
theorem OwnIn.new (hs : ∀ x, (c x).length = s) (h : OwnIn c s e lo hi w v l) : ∃ a cap, v = .slice a l.length cap ∧ l.length ≤ cap ∧ RsNew c s e lo hi w a l := by
 obtain ⟨h1, h2⟩ := h
 obtain ⟨a, cap, rfl, hc, hn⟩ := RsNew.of_owns hs h1
 refine ⟨a, cap, rfl, hc, ?_⟩
 rcases hn with hn | ⟨b, o, row, rfl, h3, _, k⟩
 ·exact .inl hn
 ·exact .inr ⟨b, o, row, rfl, h3, h2 b rfl, k⟩
end
section
variable {P : Program} {ops : Array Oper} {rest : List Oper} {o : Oper} {a : Act} {w : World} {Q : Exit → Act → World → Prop}
theorem wpList_lit0 {α : Type} (c : α → List Value) (s : Nat) (hgd : o.guard = none) (t : TypeId) (ho : o.op = .buildSlice t 0 #[]) (e : TypeId) (i : TypeInfo) (ht : P.underlying t = some (.slice e)) (hi : P.info? e = some i)
  (h : ∀ w' g, w.heap.size = g → OwnIn c s e g w'.heap.size w' (.slice (some ⟨g, 0, none⟩) 0 0) ([] : List α) → Below w.heap.size w w' → wpList P ops Q rest (a.put o.dst (.slice (some ⟨g, 0, none⟩) 0 0)) w') : wpList P ops Q (o :: rest) a w :=
 wpList_plain hgd fun K hK => by
  have hown := World.ownsRow_lit (base := w.heap.size) (size := s) (e := e) w #[] 0 (Nat.le_refl _) (by unfold maxLen; omega) (by simp)
  have := hK _ _ (h (w.alloc (.cells #[] e)) _ rfl ⟨hown, fun k hk => by simp [Value.ownBlock] at hk; subst hk; simp⟩ ((Below.refl _ _).alloc (Nat.le_refl _) _))
  unfold Oper.wp execOp
  simp [ho, Instr.buildSlice, run_underlying ht, sizeOf, typeInfo, hi, Instr.fill, newRow, run_newObj_alloc, -run_newObj, Result.andThen_ok, show ∀ f : Nat → Value, (Array.range 0).map f = #[] from fun f => Array.eq_empty_of_size_eq_zero (by simp)]
  exact this
theorem wpList_append_rs {α : Type} {c : α → List Value} {size : Nat} (hc : ∀ x, (c x).length = size) (hone : ∀ x, ∀ u ∈ c x, u.oneCell' = true) (hgd : o.guard = none) (s x : Operand) (t : TypeId)
  (ho : o.op = .call { callee := .builtin .append, args := #[s, x], argTypes := #[t, t] })
  (e : TypeId) (i : TypeInfo) (z : Value) (bytes : Nat) (ht : P.underlying t = some (.slice e)) (hi : P.info? e = some i) (hz : i.zero = some z)
  (hsize : i.size = size) (hby : i.bytes = bytes) (hzs : z.cells.size = size) (hsz : 0 < size)
  (lo hi' : Nat) (v : Value) (l : List α) (hs : a.eval s = v) (hown : OwnIn c size e lo hi' w v l)
  (ad : Option Addr) (cap : Nat) (m : List α) (hx : a.eval x = .slice ad m.length cap) (hin : RsIn c size w ad m)
  (h63 : l.length + m.length ≤ maxLen) (hbytes : (l.length + m.length) * bytes ≤ 140737488355328) (hbase : lo ≤ w.heap.size)
  (h : ∀ v' w', OwnIn c size e lo w'.heap.size w' v' (l ++ m) → Out lo hi' w w' → wpList P ops Q rest (a.put o.dst v') w') : wpList P ops Q (o :: rest) a w := by
 obtain ⟨hown, hlt⟩ := hown
 have hgo : ∀ v' w', w'.ownsRow lo e size v' (l.length + m.length) (l.flatMap c ++ m.flatMap c) → w.grownBy w' v.ownBlock → wpList P ops Q rest (a.put o.dst v') w' := fun v' w' h1 h2 => by
  refine h v' w' ⟨by simpa using h1, fun k hk => (World.ownsRow.lt h1 k hk).2⟩ (Out.of_grown h2 fun k hk => ⟨(World.ownsRow.lt hown k hk).1, hlt k hk⟩)
 rcases ad with _ | ad
 ·have hl : m = [] := by
   rcases hin with h | ⟨b, o', h', _⟩
   ·exact h
   ·cases h'
  subst hl
  refine wpList_plain hgd fun K hK => ?_
  have hrun : (Builtin.append_ #[t, t] o.type #[v, .slice none 0 cap]).run P w = .ok v w := by
   rcases hown.2 with ⟨rfl, h0⟩ | ⟨g, cap', cur, rfl, _, _, hnc, _⟩
   ·simp [Builtin.append_, run_underlying ht, sizeOf, typeInfo, hi, Builtin.lenOf, Builtin.firstCells]
   ·simp [Builtin.append_, run_underlying ht, sizeOf, typeInfo, hi, Builtin.lenOf, Builtin.firstCells, hnc, storeCells]
  unfold Oper.wp
  simp [execOp, ho, resolve, invoke, builtin, hs, hx, hrun, Result.andThen]
  exact hK _ _ (hgo v w (by simpa using hown) ⟨rfl, rfl, rfl, Nat.le_refl _, fun _ _ _ => rfl⟩)
 ·refine wpList_append_own w hgd s x t ho lo e i z size bytes ht hi hz hsize hby hzs hsz v l.length (l.flatMap c) hs hown ad m.length cap (m.flatMap c) hx (flat_len c size hc m) ?_ ?_ h63 hbytes hbase fun v' w' h1 h2 _ => hgo v' w' h1 h2
  ·rcases hin with rfl | ⟨b, o', h', _, hcs⟩
   ·intro j u hj
    simp at hj
   ·cases h'
    exact RsIn.news hc hcs
  ·intro u hu
   rw [List.mem_flatMap] at hu
   obtain ⟨x, _, hx⟩ := hu
   exact hone x u hx
theorem fold_set : ∀ (cs : List Value) (A : Array Value) (k : Nat), A.size = k + cs.length → List.foldl (fun (B : Array Value) (x : Value × Nat) => B.setIfInBounds x.2 x.1) A (cs.zipIdx k) = (A.toList.take k ++ cs).toArray
 | [], A, k, h => by
  simp only [List.length_nil, Nat.add_zero] at h
  subst h
  show A = _
  rw [List.append_nil, List.take_of_length_le (by simp)]
 | v :: r, A, k, h => by
  simp only [List.length_cons] at h
  rw [List.zipIdx_cons, List.foldl_cons, fold_set r _ (k + 1) (by simp; omega)]
  have hk : k < A.toList.length := by simp; omega
  have e : (A.setIfInBounds k v).toList.take (k + 1) = A.toList.take k ++ [v] := by
   rw [Array.toList_setIfInBounds, List.take_add_one, List.take_set_of_le (Nat.le_refl _)]
   rw [List.getElem?_set_self (by simpa using hk)]
   rfl
  rw [e]
  simp
theorem wpList_lit1 {α : Type} {c : α → List Value} {size : Nat} (hc : ∀ x, (c x).length = size) (hgd : o.guard = none) (t : TypeId) (y : Operand) (ho : o.op = .buildSlice t 1 #[(0, y)]) (e : TypeId) (i : TypeInfo) (ht : P.underlying t = some (.slice e)) (hi : P.info? e = some i)
  (z : Value) (hz : i.zero = some z) (hsize : i.size = size) (x : α) (v : Value) (hy : a.eval y = v) (hv : v.cells = (c x).toArray) (hzs : z.cells.size = size) (hsz : 0 < size) (hmax : size ≤ 16777216)
  (h : ∀ w' g, w.heap.size = g → RsIn c size w' (some ⟨g, 0, none⟩) [x] → Below w.heap.size w w' → wpList P ops Q rest (a.put o.dst (.slice (some ⟨g, 0, none⟩) 1 1)) w') : wpList P ops Q (o :: rest) a w :=
 wpList_plain hgd fun K hK => by
  have hh := heap_alloc_new w (.cells (c x).toArray e)
  have hin : RsIn c size (w.alloc (.cells (c x).toArray e)) (some ⟨w.heap.size, 0, none⟩) [x] := .inr ⟨w.heap.size, 0, rfl, by simp, fun i' x' hx j u hu => by
   have : i' = 0 ∧ x' = x := by
    rcases i' with _ | i'
    ·simp at hx
     exact ⟨rfl, hx.symm⟩
    ·simp at hx
   obtain ⟨rfl, rfl⟩ := this
   rw [cell_of_row _ _ _ _ _ (0, 0) hh]
   simpa using hu⟩
  have := hK _ _ (h (w.alloc (.cells (c x).toArray e)) _ rfl hin ((Below.refl _ _).alloc (Nat.le_refl _) _))
  unfold Oper.wp execOp
  have hlen := hc x
  simp [ho, Instr.buildSlice, run_underlying ht, sizeOf, typeInfo, hi, hz, zeroValue, Instr.fill, newRow, -run_newObj, Result.andThen_ok, hy, hv, hlen, hsize, show ¬ 16777216 < size by omega, show ¬ size = 0 by omega]
  rw [fold_set _ _ 0 (by simp [hlen])]
  simp [-run_newObj]
  exact this
end
end Go.Proofs.YtioldepgoodipaaGreat
namespace Go.Proofs.YtioldepgoodipaaGreat
open Go.RowKit Go.ChangeShapes Go.WideShapes Go.ChangeAt Go.Joins
set_option linter.unusedVariables false

section
variable {P : Program} {w : World}
theorem run_append_none_nums (base : Nat) (t ty e : TypeId) (i : TypeInfo) (size : Nat) (ht : P.underlying t = some (.slice e)) (hi : P.info? e = some i)
  (v : Value) (n : Nat) (xs : List Value) (hown : w.ownsRow base e size v n xs) (c : Nat) :
  (Builtin.append_ #[t, t] ty #[v, .slice none 0 c]).run P w = .ok v w := by
 rcases hown.2 with ⟨rfl, rfl⟩ | ⟨g, cap, cur, rfl, _, _, hnc, _⟩
 ·simp [Builtin.append_, run_underlying ht, sizeOf, typeInfo, hi, Builtin.lenOf, Builtin.firstCells]
 ·simp [Builtin.append_, run_underlying ht, sizeOf, typeInfo, hi, Builtin.lenOf, Builtin.firstCells, hnc, storeCells]
theorem wpList_append_nums {ops : Array Oper} {rest : List Oper} {o : Oper} {a : Act} {Q : Exit → Act → World → Prop} (hgd : o.guard = none) (s x : Operand) (t : TypeId)
  (ho : o.op = .call { callee := .builtin .append, args := #[s, x], argTypes := #[t, t] })
  (base : Nat) (e : TypeId) (i : TypeInfo) (z : Value) (bytes : Nat) (ht : P.underlying t = some (.slice e)) (hi : P.info? e = some i) (hz : i.zero = some z)
  (hsize : i.size = 1) (hby : i.bytes = bytes) (hzs : z.cells.size = 1)
  (v : Value) (n : Nat) (xs : List Value) (hs : a.eval s = v) (hown : w.ownsRow base e 1 v n xs)
  (ad : Option Addr) (c : Nat) (l : List Int) (m : Nat) (hm : l.length = m) (hx : a.eval x = .slice ad m c) (hin : NumsIn w ad l)
  (h63 : n + m ≤ maxLen) (hbytes : (n + m) * bytes ≤ 140737488355328) (hbase : base ≤ w.heap.size)
  (h : ∀ v' w', w'.ownsRow base e 1 v' (n + m) (xs ++ ncells l) → w.grownBy w' v.ownBlock → wpList P ops Q rest (a.put o.dst v') w') : wpList P ops Q (o :: rest) a w := by
 subst hm
 rcases ad with _ | ad
 ·have hl : l = [] := by
   rcases hin with h | ⟨b, o', h', _⟩
   ·exact h
   ·cases h'
  subst hl
  refine wpList_plain hgd fun K hK => ?_
  have hrun := run_append_none_nums (P := P) (w := w) base t o.type e i 1 ht hi v n xs hown c
  unfold Oper.wp
  simp [execOp, ho, resolve, invoke, builtin, hs, hx, hrun, Result.andThen]
  exact hK _ _ (h v w (by simpa [ncells] using hown) (World.grownBy.refl _ _))
 ·refine wpList_append_own w hgd s x t ho base e i z 1 bytes ht hi hz hsize hby hzs (by decide) v n xs hs hown ad l.length c (ncells l) hx (by simp [ncells]) ?_ (ncells_one l) h63 hbytes hbase fun v' w' h1 h2 _ => h v' w' h1 h2
  rcases hin with rfl | ⟨b, o', h', _, hc⟩
  ·intro j u hj
   simp [ncells] at hj
  ·cases h'
   exact nums_cells hc
end

theorem own_row1 {w : World} {base : Nat} {e : TypeId} {g n : Nat} {xs : List Value} (h : w.ownsRow base e 1 (.slice (some ⟨g, 0, none⟩) n n) n xs) :
  ∀ j, j < n → (w.cell? ⟨g, j, none⟩).isSome = true ∧ w.frozen? ⟨g, j, none⟩ = false := by
 rcases h.2 with ⟨h', _⟩ | ⟨g', cap', cur, h', _, hg, _, _, hc, _⟩
 ·simp at h'
 ·simp only [Value.slice.injEq, Option.some.injEq, Addr.mk.injEq, and_true, true_and] at h'
  obtain ⟨rfl, rfl⟩ := h'
  intro j hj
  refine ⟨?_, frozen_of_row w g j cur e hg⟩
  rw [cell_of_row w g j cur e (0, 0) hg]
  rw [Array.getElem?_eq_getElem (by omega)]
  rfl
theorem own_lt1 {w : World} {base : Nat} {e : TypeId} {g n c : Nat} {xs : List Value} (h : w.ownsRow base e 1 (.slice (some ⟨g, 0, none⟩) n c) n xs) : g < w.heap.size := (World.ownsRow.lt h g rfl).2
theorem NumsTo.info : (Tryz.prog.info? 2).map (fun i => (i.zero, i.size, i.bytes)) = some (some (.int .i64 0), 1, 8) := by kernel_rfl
set_option maxHeartbeats 2000000 in
theorem toInt64S_new (a : Option Addr) (cap : Nat) (l : List Int) (w : World) (h : NumsIn w a l) (hlen : l.length ≤ 1048576) :
  Calls Tryz.prog 93 #[.slice a l.length cap] w fun e w' => e = .returned (.slice (some ⟨w.heap.size, 0, none⟩) l.length l.length) ∧ NumsNew w.heap.size w'.heap.size w' (some ⟨w.heap.size, 0, none⟩) l ∧ Below w.heap.size w w' := by
 obtain ⟨i0, hi, hz0, hz1, hz2⟩ := info_parts NumsTo.info
 obtain ⟨N, hN⟩ : ∃ N, l.length = N := ⟨_, rfl⟩
 have HN := Lib.hid hN
 have HH := Lib.hid h
 rw [hN] at hlen ⊢
 clear hN h
 go_enter Tryz.func93, Tryz.ntmps93
 go_wp2_with (at_make; refine wpList_make_full _ rfl (.tmp 6) (.tmp 6) 24 rfl w.heap.size 2 i0 (.int .i64 0) 1 Tryz.underlying24 hi hz0 hz1 .i64 .i64 (N : Int) (N : Int) N (by rfl) (by rfl) (by omega) (by omega) (by rw [hz2]; omega) (by unfold maxLen; omega) (Nat.le_refl _) ?_; intro w1 hown hgrow)
 have HB0 := Lib.hid (own_row1 hown)
 have hgz := own_lt1 hown
 have hb1 : Below w.heap.size w w1 := (Below.refl _ _).grown hgrow (Nat.le_refl _) (fun _ h => by cases h)
 clear hown hgrow
 rcases Nat.eq_zero_or_pos N with hN0 | hN0
 ·subst hN0
  have hl : l = [] := List.eq_nil_of_length_eq_zero HN.out
  refine wp_loop_rounds 1 ?_
  rw [rounds_succ]; go_wp2
  go_ret
  exact ⟨rfl, .inl (by first | exact hl | rfl), hb1⟩
 obtain ⟨b, o, rfl, hlt, hc⟩ := HH.out.at (by have := HN.out; omega)
 have HI := Lib.hid hc
 clear hc HH
 go_loopw [4] (fun i wr => ∃ k : Nat, i = .int .i64 (k : Int) ∧ k ≤ N ∧ Below w.heap.size w wr ∧ w.heap.size < wr.heap.size ∧
  (∀ j, j < k → wr.cell? ⟨w.heap.size, j, none⟩ = some (.int .i64 (numAt l j))) ∧
  (∀ j, j < N → (wr.cell? ⟨w.heap.size, j, none⟩).isSome = true ∧ wr.frozen? ⟨w.heap.size, j, none⟩ = false)) (fun i _ => N - (intOf i).toNat)
 case atStart => exact ⟨0, rfl, by omega, hb1, hgz, fun j hj => absurd hj (by omega), HB0.out⟩
 case round =>
  obtain ⟨k, rfl, hk, hb, hsz, hdone, hroom⟩ := hrel
  have HD := Lib.hid hdone
  have HR := Lib.hid hroom
  clear hdone hroom
  by_cases hkn : k < N
  ·have hkl : k < l.length := by have := HN.out; omega
   have d0 := (hb.cell (p := ⟨b, _, none⟩) hlt).trans (HI.out k _ (numAt_some hkl))
   obtain ⟨x, hx⟩ : ∃ x, numAt l k = x := ⟨_, rfl⟩
   rw [hx] at d0
   have HX := Lib.hid hx
   clear hx
   obtain ⟨u0, e0⟩ := Option.isSome_iff_exists.1 (HR.out k (by omega)).1
   have g0 := (HR.out k (by omega)).2
   have hi1 : (0 : Int) ≤ (k : Int) := by omega
   have hi2 : (k : Int) < (N : Int) := by omega
   go_wp2
   go_roundw
   case rel =>
    refine ⟨k + 1, by go_num, by omega, hb.setCell (by simp) _, by simpa using hsz, fun j hj => ?_, fun j hj => ?_⟩
    ·rcases Nat.lt_or_ge j k with h | h
     ·rw [World.cell?_setCell_other _ _ _ _ (by simp <;> omega)]
      exact HD.out j h
     ·obtain rfl : j = k := by omega
      rw [HX.out]
      exact World.cell?_setCell_same _ _ _ e0
    ·refine ⟨?_, by rw [World.frozen?_setCell]; exact (HR.out j hj).2⟩
     by_cases e : j = k
     ·subst e
      rw [World.cell?_setCell_same _ _ _ e0]
      rfl
     ·rw [World.cell?_setCell_other _ _ _ _ (by simp <;> omega)]
      exact (HR.out j hj).1
   case measure => simp [intOf]; omega
  ·have hge : N ≤ k := by omega
   go_wp2
   go_ret
   exact ⟨rfl, .inr ⟨w.heap.size, 0, rfl, Nat.le_refl _, hsz, hsz, fun j hj => by
    have := (HR.out j (by have := HN.out; omega)).2
    simpa using this, fun i x hx => by
    have hi : i < l.length := (List.getElem?_eq_some_iff.1 hx).1
    have := HD.out i (by have := HN.out; omega)
    rw [numAt_some hi] at hx
    obtain rfl := Option.some.inj hx
    simpa using this⟩, hb⟩
set_option maxHeartbeats 2000000 in
theorem eqInt64S_same (a a' : Option Addr) (cap cap' : Nat) (l : List Int) (w : World) (h : NumsIn w a l) (h' : NumsIn w a' l) (hlen : l.length ≤ 1048576) :
  Calls Tryz.prog 108 #[.slice a l.length cap, .slice a' l.length cap'] w fun e w' => e = .returned (.bool true) ∧ Below w.heap.size w w' := by
 obtain ⟨N, hN⟩ : ∃ N, l.length = N := ⟨_, rfl⟩
 have HN := Lib.hid hN
 rcases Nat.eq_zero_or_pos N with hN0 | hN0
 ·rw [hN]
  subst hN0
  clear hN hlen h h'
  go_enter Tryz.func108, Tryz.ntmps108
  go_wp2
  refine wp_loop_rounds 1 ?_
  rw [rounds_succ]; go_wp2
  go_ret
  exact ⟨rfl, Below.refl _ _⟩
 obtain ⟨b, o, rfl, hlt, hc⟩ := h.at (by omega)
 obtain ⟨b', o', rfl, hlt', hc'⟩ := h'.at (by omega)
 have HI := Lib.hid hc
 have HI' := Lib.hid hc'
 clear hc hc' h h'
 rw [hN] at hlen ⊢
 clear hN
 go_enter Tryz.func108, Tryz.ntmps108
 go_wp2
 go_loopw [5] (fun i wr => ∃ k : Nat, i = .int .i64 (k : Int) ∧ k ≤ N ∧ Below w.heap.size w wr) (fun i _ => N - (intOf i).toNat)
 case atStart => exact ⟨0, rfl, by omega, Below.refl _ _⟩
 case round =>
  obtain ⟨k, rfl, hk, hb⟩ := hrel
  by_cases hkn : k < N
  ·have hkl : k < l.length := by have := HN.out; omega
   have d0 := (hb.cell (p := ⟨b, _, none⟩) hlt).trans (HI.out k _ (numAt_some hkl))
   have d1 := (hb.cell (p := ⟨b', _, none⟩) hlt').trans (HI'.out k _ (numAt_some hkl))
   have hi1 : (0 : Int) ≤ (k : Int) := by omega
   have hi2 : (k : Int) < (N : Int) := by omega
   generalize numAt l k = x at *
   go_wp2_with fail
   go_quiet (fail)
   go_wp2
   go_roundw
   case rel => exact ⟨k + 1, by go_num, by omega, ⟨hb.os, hb.tape, hb.output, hb.size, hb.block⟩⟩
   case measure => simp [intOf]; omega
  ·go_wp2
   go_ret
   exact ⟨rfl, hb⟩
end Go.Proofs.YtioldepgoodipaaGreat
namespace Go.Proofs.YtioldepgoodipaaGreat
open Go.RowKit
set_option linter.unusedVariables false
set_option maxHeartbeats 1000000 in
theorem toCan_any (n : Int) (s : ByteArray) (w : World) :
  Calls Tryz.prog 21 #[.agg #[.int .i64 n, .string s]] w fun e w' => e = .returned (.agg #[.int .i64 n, .string s]) ∧ Below w.heap.size w w' := by
 go_enter Tryz.func21, Tryz.ntmps21
 go_wp2
 exact bodyPost_ret (v := .agg #[.int .i64 n, .string s]) (by simp [results, Tryz.results21, go_sem]) rfl ⟨rfl, (((Below.refl _ _).alloc (Nat.le_refl _) _).alloc (by simp) _).alloc (by simp; omega) _⟩
set_option maxHeartbeats 1000000 in
theorem eqCan_same (n : Int) (s : ByteArray) (w : World) :
  Calls Tryz.prog 173 #[.agg #[.int .i64 n, .string s], .agg #[.int .i64 n, .string s]] w fun e w' => e = .returned (.bool true) ∧ Below w.heap.size w w' := by
 go_enter Tryz.func173, Tryz.ntmps173
 go_wp2
 go_ret
 exact ⟨rfl, ((Below.refl _ _).alloc (Nat.le_refl _) _).alloc (by simp) _⟩
set_option maxHeartbeats 1000000 in
theorem szCan_any (n : Int) (s : ByteArray) (m : Int) (w : World) (h0 : 0 ≤ m) (h1 : m ≤ 1048576) (hs : s.size ≤ maxLen) :
  Calls Tryz.prog 19 #[.agg #[.int .i64 n, .string s], .int .i64 m] w fun e w' => e = .returned (.int .i64 (if m - s.size < 0 then -1 else m - s.size)) ∧ Below w.heap.size w w' := by
 unfold maxLen at hs
 by_cases h : m - s.size < 0
 ·have hd : decide (m - (s.size : Int) < 0) = true := decide_eq_true h
  have hw : IntKind.i64.wrap (m - (s.size : Int)) = m - s.size := IntWalk.i64_in _ (by omega)
  rw [if_pos h]
  go_enter Tryz.func19, Tryz.ntmps19
  go_wp2
  go_ret
  exact ⟨rfl, (Below.refl _ _).alloc (Nat.le_refl _) _⟩
 ·have hd : decide (m - (s.size : Int) < 0) = false := decide_eq_false h
  have hw : IntKind.i64.wrap (m - (s.size : Int)) = m - s.size := IntWalk.i64_in _ (by omega)
  rw [if_neg h]
  go_enter Tryz.func19, Tryz.ntmps19
  go_wp2
  go_ret
  exact ⟨rfl, (Below.refl _ _).alloc (Nat.le_refl _) _⟩
set_option maxHeartbeats 1000000 in
theorem toName_any (n : Nm) (w : World) :
  Calls Tryz.prog 92 #[nmV n] w fun e w' => e = .returned (nmV n) ∧ Below w.heap.size w w' := by
 obtain ⟨u, m, i, f, c, s, y, a⟩ := n
 unfold nmV
 dsimp only
 go_enter Tryz.func92, Tryz.ntmps92
 go_wp2
 exact bodyPost_ret (v := .agg #[.int .i64 u, .int .i64 m, .int .i64 i, .int .i64 f, .int .i64 c, .int .i64 s, .int .i64 y, .bool a]) (by simp [results, Tryz.results92, go_sem]) rfl ⟨rfl, (((Below.refl _ _).alloc (Nat.le_refl _) _).alloc (by simp) _).alloc (by simp; omega) _⟩
set_option maxHeartbeats 1000000 in
theorem eqName_same (n : Nm) (w : World) :
  Calls Tryz.prog 107 #[nmV n, nmV n] w fun e w' => e = .returned (.bool true) ∧ Below w.heap.size w w' := by
 obtain ⟨u, m, i, f, c, s, y, a⟩ := n
 unfold nmV
 dsimp only
 go_enter Tryz.func107, Tryz.ntmps107
 go_wp2
 go_ret
 exact ⟨rfl, ((Below.refl _ _).alloc (Nat.le_refl _) _).alloc (by simp) _⟩
end Go.Proofs.YtioldepgoodipaaGreat
