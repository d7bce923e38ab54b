/- Several texts in one, each with its own head: what is proved, and of what, stands there. -/
import Derived.Test.YtioldepgoodipaaGreatOwn
import Derived.Test.YtioldepgoodipaaGreatBroad
import Derived.Laws.BitsAllLaws
import Derived.Laws.Shifts
import Derived.IntWalk
import Derived.Deep.RegionWith
import Derived.BigQuiet
import Derived.Deep.RegionHeld3
import Derived.Test.YtioldepgoodipaaGreatRsOwn
import Derived.Test.YtioldepgoodipaaGreatNumsTo
import Derived.Test.YtioldepgoodipaaGreatSess
import Derived.Test.YtioldepgoodipaaGreatTab
import Derived.WalkMore
import Derived.Test.YtioldepgoodipaaGreatNtA
import Derived.Test.YtioldepgoodipaaGreatClaimMath
import Derived.Test.YtioldepgoodipaaGreatGts
/- Bits of a text, numbers made of bits, bits put into a text, and what a field's numbers mean: over lists and numbers alone. -/
namespace Go.Proofs.YtioldepgoodipaaGreat
open Go.RowKit
set_option linter.unusedVariables false

/-- Bit i of a row of bytes. -/
def bitL (l : List UInt8) (i : Nat) : Nat := (l[i / 8]?.getD 0).toNat / 2 ^ (i % 8) % 2
/-- The number of w bits from place a on, the lowest first. -/
def numOf (f : Nat → Nat) (a : Nat) : Nat → Nat
  | 0 => 0
  | w + 1 => f a + 2 * numOf f (a + 1) w
/-- The bytes of bits. -/
def putB (f : Nat → Nat) (len : Nat) : List UInt8 := (List.range len).map fun k => UInt8.ofNat (numOf f (8 * k) 8)
/-- The bits of l with w bits of n from a on. -/
def putBit (l : List UInt8) (a w n i : Nat) : Nat := if a ≤ i ∧ i < a + w then n / 2 ^ (i - a) % 2 else bitL l i
/-- What the model writes into the byte of one bit more. -/
def turnB (b p n : Nat) : Nat := b - b / p % 2 * p + n % 2 * p
/-! What a field's numbers mean. -/
def fieldB (a w : Int) : Bool := inB 0 1800 a && inB 1 32 w
def hasB (s : ByteArray) (a w : Int) : Bool := fieldB a w && decide (a + w ≤ 8 * (s.size : Int))
/-- Two to a power, for a width. -/
def powI (w : Int) : Int := ((2 ^ w.toNat : Nat) : Int)
def getI (s : ByteArray) (a w : Int) : Int := if 8000 < s.size then 0 else if hasB s a w then ((numOf (bitL s.data.toList) a.toNat w.toNat : Nat) : Int) else 0
def putI (s : ByteArray) (a w n : Int) : List UInt8 :=
  if 8000 < s.size then [] else if hasB s a w && inB 0 (powI w - 1) n then putB (putBit s.data.toList a.toNat w.toNat n.toNat) s.size else s.data.toList
def lowI (a w : Int) (g : Bool) : Int := if fieldB a w && g then -(powI (w - 1)) else 0
def topI (w : Int) (g : Bool) : Int := if g then powI (w - 1) - 1 else powI w - 1
def highI (a w : Int) (g : Bool) : Int := if fieldB a w then (if w < 4 then topI w g else topI w g - 2) else 0
def valB (a w : Int) (g : Bool) (k n : Int) : Bool :=
  fieldB a w && (if k = 1 then decide (lowI a w g ≤ n) && decide (n ≤ highI a w g) else inB 2 3 k && (decide (n = 0) && decide (4 ≤ w)))
/-- What a number that stands in a field means. -/
def meanI (w : Int) (g : Bool) (n : Int) : Int × Int := if 4 ≤ w ∧ n = topI w g then (2, 0) else if 4 ≤ w ∧ n = topI w g - 1 then (3, 0) else (1, n)
def signI (w : Int) (g : Bool) (n : Int) : Int := if topI w g < n then n - powI w else n
def fgetI (s : ByteArray) (a w : Int) (g : Bool) : Int × Int :=
  if 8000 < s.size then (0, 0) else if hasB s a w then meanI w g (signI w g (numOf (bitL s.data.toList) a.toNat w.toNat : Nat)) else (0, 0)
/-- The number by which a field tells a value. -/
def tellI (w : Int) (g : Bool) (k n : Int) : Int := if k = 2 then topI w g else if k = 3 then topI w g - 1 else n
def bitsI (w n : Int) : Int := if n < 0 then n + powI w else n
def fputI (s : ByteArray) (a w : Int) (g : Bool) (k n : Int) : List UInt8 :=
  if 8000 < s.size then [] else if valB a w g k n && hasB s a w then putB (putBit s.data.toList a.toNat w.toNat (bitsI w (tellI w g k n)).toNat) s.size else s.data.toList

end Go.Proofs.YtioldepgoodipaaGreat
/- The laws of 'or', 'and' and of shifts at int64 and at a byte that bits of a text want. -/
namespace Go.Proofs.YtioldepgoodipaaGreat
open Go.RowKit
set_option linter.unusedVariables false

end Go.Proofs.YtioldepgoodipaaGreat
/- What the program's tooLong answers: whether the text has more than 8000 bytes. -/
namespace Go.Proofs.YtioldepgoodipaaGreat
open Go.RowKit
set_option linter.unusedVariables false
end Go.Proofs.YtioldepgoodipaaGreat
/- Whether a Field is right, its least and greatest numbers, and whether it can tell a Value: the program's and the model's. Nothing that was there is written. -/
namespace Go.Proofs.YtioldepgoodipaaGreat
open Go.RowKit
set_option linter.unusedVariables false

/-- A Field's value. -/
def fdV (a w : Int) (g : Bool) : Value := .agg #[.int .i64 a, .int .i64 w, .bool g]
end Go.Proofs.YtioldepgoodipaaGreat
/- The least and the greatest number of a Field: the program's and the model's. Nothing that was there is written. -/
namespace Go.Proofs.YtioldepgoodipaaGreat
open Go.RowKit
set_option linter.unusedVariables false

end Go.Proofs.YtioldepgoodipaaGreat
/- Rows of Fields: alike, marked, read again by the laws' own functions. Nothing that was there is written, but what is marked. -/
namespace Go.Proofs.YtioldepgoodipaaGreat
open Go.RowKit
set_option linter.unusedVariables false

/-- One of them. -/
structure Fd where
  a : Int
  w : Int
  g : Bool
/-- Its cells. -/
def fdL (x : Fd) : List Value := [.int .i64 x.a, .int .i64 x.w, .bool x.g]
theorem fdL_len (x : Fd) : (fdL x).length = 3 := rfl
def fdAt (l : List Fd) (i : Nat) : Fd := l[i]?.getD ⟨0, 0, false⟩
/-- The marks from q on. -/
def markFd (q : Nat) : Fd := ⟨((q : Nat) : Int), ((q + 1 : Nat) : Int), (((q + 2 : Nat) : Int) % 3 == 0)⟩
/-- m of them from k on. -/
def marksFd (k m : Nat) : List Fd := (List.range m).map fun i => markFd (k + 3 * i)
end Go.Proofs.YtioldepgoodipaaGreat
/- The table of groups: its rows, as the program lays them down, and the row of one group. Nothing that was there is written. -/
namespace Go.Proofs.YtioldepgoodipaaGreat
open Go.RowKit
set_option linter.unusedVariables false

/-- A row of the table. -/
structure Df where
  p : Int
  s : Int
  r : Int
  fs : List Fd
/-- The table. -/
def dfs : List Df := [⟨127250, 8, 2, [⟨0, 8, false⟩, ⟨8, 16, false⟩, ⟨24, 16, true⟩, ⟨40, 16, true⟩, ⟨56, 2, false⟩]⟩, ⟨127488, 8, 2, [⟨0, 8, false⟩, ⟨8, 16, false⟩, ⟨24, 16, false⟩, ⟨40, 8, true⟩]⟩, ⟨128267, 8, 3, [⟨0, 8, false⟩, ⟨8, 32, false⟩, ⟨40, 16, true⟩, ⟨56, 8, false⟩]⟩, ⟨128275, 14, 6, [⟨0, 16, false⟩, ⟨16, 32, false⟩, ⟨48, 32, false⟩, ⟨80, 32, false⟩]⟩, ⟨129025, 8, 2, [⟨0, 32, true⟩, ⟨32, 32, true⟩]⟩, ⟨130306, 8, 2, [⟨0, 8, false⟩, ⟨8, 16, false⟩, ⟨24, 16, false⟩, ⟨40, 3, false⟩]⟩]
/-- The place of a group in it. -/
def ixD (p : Int) : Nat := if p = 127250 then 0 else if p = 127488 then 1 else if p = 128267 then 2 else if p = 128275 then 3 else if p = 129025 then 4 else if p = 130306 then 5 else 6
/-- The row of a group. -/
def defD (p : Int) : Df := dfs[ixD p]?.getD ⟨0, 0, 0, []⟩
/-- A row as it stands in memory. -/
structure Dx where
  p : Int
  s : Int
  r : Int
  a : Option Addr
  n : Nat
def dxL (x : Dx) : List Value := [.int .i64 x.p, .int .i64 x.s, .int .i64 x.r, .slice x.a x.n x.n]
theorem dxL_len (x : Dx) : (dxL x).length = 4 := rfl
/-- The rows, their Fields in the blocks from B on. -/
def dxs (B : Nat) : List Dx := [⟨127250, 8, 2, some ⟨B, 0, none⟩, 5⟩, ⟨127488, 8, 2, some ⟨B + 1, 0, none⟩, 4⟩, ⟨128267, 8, 3, some ⟨B + 1 + 1, 0, none⟩, 4⟩, ⟨128275, 14, 6, some ⟨B + 1 + 1 + 1, 0, none⟩, 4⟩, ⟨129025, 8, 2, some ⟨B + 1 + 1 + 1 + 1, 0, none⟩, 2⟩, ⟨130306, 8, 2, some ⟨B + 1 + 1 + 1 + 1 + 1, 0, none⟩, 4⟩]
def dxAt (B : Nat) (i : Nat) : Dx := (dxs B)[i]?.getD ⟨0, 0, 0, none, 0⟩
/-- What is found. -/
def dxD (B : Nat) (p : Int) : Dx := dxAt B (ixD p)
theorem dxAt_some {B i : Nat} (h : i < 6) : (dxs B)[i]? = some (dxAt B i) := by
  unfold dxAt
  rw [List.getElem?_eq_getElem (show i < (dxs B).length from h)]
  rfl
def pAt (i : Nat) : Int := (dxAt 0 i).p
theorem dxAt_p (B i : Nat) : (dxAt B i).p = pAt i := by
  rcases i with _ | _ | _ | _ | _ | _ | i <;> rfl
theorem ixD_le (p : Int) : ixD p ≤ 6 := by
  unfold ixD
  repeat' split
  all_goals omega
theorem ixD_at (i : Nat) (h : i < 6) : ixD (pAt i) = i := by
  rcases i with _ | _ | _ | _ | _ | _ | i
  all_goals first | rfl | omega
theorem ixD_of {p : Int} {i : Nat} (h : i < 6) (hp : pAt i = p) : ixD p = i := by rw [← hp]; exact ixD_at i h
theorem pAt_0 : pAt 0 = 127250 := rfl
theorem pAt_1 : pAt 1 = 127488 := rfl
theorem pAt_2 : pAt 2 = 128267 := rfl
theorem pAt_3 : pAt 3 = 128275 := rfl
theorem pAt_4 : pAt 4 = 129025 := rfl
theorem pAt_5 : pAt 5 = 130306 := rfl
theorem pAt_mono {i j : Nat} (hij : i < j) (hj : j < 6) : pAt i < pAt j := by
  rcases j with _ | _ | _ | _ | _ | _ | j
  all_goals first | omega | skip
  all_goals rcases i with _ | _ | _ | _ | _ | i
  all_goals first | omega | decide
/-- Ahead of a greater one there is none. -/
theorem ixD_no {p : Int} {i : Nat} (hi : i ≤ 6) (h1 : ∀ j, j < i → pAt j < p) (h2 : i < 6 → p < pAt i) : ixD p = 6 := by
  have hne : ∀ j, j < 6 → p ≠ pAt j := by
    intro j hj e
    rcases Nat.lt_or_ge j i with h | h
    · have := h1 j h
      omega
    · have h3 := h2 (by omega)
      rcases Nat.lt_or_ge i j with h4 | h4
      · have := pAt_mono h4 hj
        omega
      · obtain rfl : i = j := by omega
        omega
  have n0 := hne 0 (by omega)
  have n1 := hne 1 (by omega)
  have n2 := hne 2 (by omega)
  have n3 := hne 3 (by omega)
  have n4 := hne 4 (by omega)
  have n5 := hne 5 (by omega)
  rw [pAt_0] at n0
  rw [pAt_1] at n1
  rw [pAt_2] at n2
  rw [pAt_3] at n3
  rw [pAt_4] at n4
  rw [pAt_5] at n5
  unfold ixD
  rw [if_neg n0, if_neg n1, if_neg n2, if_neg n3, if_neg n4, if_neg n5]

/-- Objects laid down one behind the other. -/
def allocL : World → List Obj → World
  | w, [] => w
  | w, o :: r => allocL (w.alloc o) r
theorem allocL_below : ∀ (l : List Obj) (w : World), Below w.heap.size w (allocL w l)
  | [], w => Below.refl _ _
  | o :: r, w => ((Below.refl w.heap.size w).alloc (Nat.le_refl _) o).trans ((allocL_below r (w.alloc o)).mono (by simp))
theorem allocL_at : ∀ (l : List Obj) (w : World) (i : Nat) (o : Obj), l[i]? = some o → (allocL w l).heap[w.heap.size + i]? = some o
  | [], w, i, o, h => by simp at h
  | o' :: r, w, i, o, h => by
    rcases i with _ | i
    · simp at h
      subst h
      exact ((allocL_below r (w.alloc o')).block _ (by simp)).trans (heap_alloc_new w o')
    · simp at h
      have := allocL_at r (w.alloc o') i o h
      rw [show w.heap.size + (i + 1) = (w.alloc o').heap.size + i by simp; omega]
      exact this
/-- The table stands in block G, the Fields of its rows in the blocks from B on. -/
structure TabAt (B G : Nat) (w : World) : Prop where
  rows : w.heap[G]? = some (.cells ((dxs B).flatMap dxL).toArray 81 (0, 0))
  flds : ∀ (i : Nat) (x : Df), dfs[i]? = some x → w.heap[B + i]? = some (.cells (x.fs.flatMap fdL).toArray 147 (0, 0))
theorem TabAt.kept {B G : Nat} {w w' : World} (h : TabAt B G w) (hb : Below w.heap.size w w') : TabAt B G w' :=
  ⟨(hb.block G (Array.getElem?_eq_some_iff.1 h.rows).1).trans h.rows, fun i x hx => (hb.block _ (Array.getElem?_eq_some_iff.1 (h.flds i x hx)).1).trans (h.flds i x hx)⟩
theorem TabAt.cells {B G : Nat} {w : World} (h : TabAt B G w) {i : Nat} (hi : i < 6) (j : Nat) (v : Value) (hv : (dxL (dxAt B i))[j]? = some v) : w.cell? ⟨G, i * 4 + j, none⟩ = some v := by
  rw [cell_of_row w G _ _ _ (0, 0) h.rows]
  have := flat_at dxL 4 dxL_len (dxs B) i _ (dxAt_some hi) j v hv
  simpa using this
theorem TabAt.lt {B G : Nat} {w : World} (h : TabAt B G w) : G < w.heap.size := (Array.getElem?_eq_some_iff.1 h.rows).1

set_option maxRecDepth 100000 in
set_option maxHeartbeats 4000000 in
theorem defs_any (w : World) :
    Calls Tryz.prog 103 #[] w fun e w' => ∃ G, e = .returned (.slice (some ⟨G, 0, none⟩) 6 6) ∧ TabAt w.heap.size G w' ∧ Below w.heap.size w w' := by
  have HA := Lib.hid (allocL_at [.cells (List.flatMap fdL [⟨0, 8, false⟩, ⟨8, 16, false⟩, ⟨24, 16, true⟩, ⟨40, 16, true⟩, ⟨56, 2, false⟩]).toArray 147, .cells (List.flatMap fdL [⟨0, 8, false⟩, ⟨8, 16, false⟩, ⟨24, 16, false⟩, ⟨40, 8, true⟩]).toArray 147, .cells (List.flatMap fdL [⟨0, 8, false⟩, ⟨8, 32, false⟩, ⟨40, 16, true⟩, ⟨56, 8, false⟩]).toArray 147, .cells (List.flatMap fdL [⟨0, 16, false⟩, ⟨16, 32, false⟩, ⟨48, 32, false⟩, ⟨80, 32, false⟩]).toArray 147, .cells (List.flatMap fdL [⟨0, 32, true⟩, ⟨32, 32, true⟩]).toArray 147, .cells (List.flatMap fdL [⟨0, 8, false⟩, ⟨8, 16, false⟩, ⟨24, 16, false⟩, ⟨40, 3, false⟩]).toArray 147, .cells ((dxs w.heap.size).flatMap dxL).toArray 81] w)
  have HB := Lib.hid (allocL_below [.cells (List.flatMap fdL [⟨0, 8, false⟩, ⟨8, 16, false⟩, ⟨24, 16, true⟩, ⟨40, 16, true⟩, ⟨56, 2, false⟩]).toArray 147, .cells (List.flatMap fdL [⟨0, 8, false⟩, ⟨8, 16, false⟩, ⟨24, 16, false⟩, ⟨40, 8, true⟩]).toArray 147, .cells (List.flatMap fdL [⟨0, 8, false⟩, ⟨8, 32, false⟩, ⟨40, 16, true⟩, ⟨56, 8, false⟩]).toArray 147, .cells (List.flatMap fdL [⟨0, 16, false⟩, ⟨16, 32, false⟩, ⟨48, 32, false⟩, ⟨80, 32, false⟩]).toArray 147, .cells (List.flatMap fdL [⟨0, 32, true⟩, ⟨32, 32, true⟩]).toArray 147, .cells (List.flatMap fdL [⟨0, 8, false⟩, ⟨8, 16, false⟩, ⟨24, 16, false⟩, ⟨40, 3, false⟩]).toArray 147, .cells ((dxs w.heap.size).flatMap dxL).toArray 81] w)
  go_enter Tryz.func103, Tryz.ntmps103
  go_wp2
  go_ret
  refine ⟨_, rfl, ⟨?_, ?_⟩, HB.out⟩
  · exact HA.out 6 _ rfl
  · intro i x hx
    rcases i with _ | _ | _ | _ | _ | _ | i
    · cases hx; exact HA.out 0 _ rfl
    · cases hx; exact HA.out 1 _ rfl
    · cases hx; exact HA.out 2 _ rfl
    · cases hx; exact HA.out 3 _ rfl
    · cases hx; exact HA.out 4 _ rfl
    · cases hx; exact HA.out 5 _ rfl
    · simp [dfs] at hx
set_option maxRecDepth 100000 in
theorem pgnOf_any (x : Dx) (w : World) :
    Calls Tryz.prog 104 #[.agg (dxL x).toArray] w fun e w' => e = .returned (.int .i64 x.p) ∧ Below w.heap.size w w' := by
  obtain ⟨p, s, r, a, n⟩ := x
  unfold dxL
  go_enter Tryz.func104, Tryz.ntmps104
  go_wp2
  go_ret
  exact ⟨rfl, (Below.refl _ _).alloc (Nat.le_refl _) _⟩
set_option maxRecDepth 100000 in
set_option maxHeartbeats 8000000 in
theorem rowOf_any (B G : Nat) (key : Int) (w : World) (h : TabAt B G w) :
    Calls Tryz.prog 102 #[.slice (some ⟨G, 0, none⟩) 6 6, .int .i64 key, .func (.func 104) #[] #[]] w fun e w' => e = .returned (.tuple #[.agg (dxL (dxD B key)).toArray, .bool (decide (ixD key < 6))]) ∧ Below w.heap.size w w' := by
  have HT := Lib.hid h
  have lG := h.lt
  clear h
  have H60 := Lib.hid (heap_alloc_new w (.cells #[.int .i64 0, .int .i64 0, .int .i64 0, .slice none 0 0] 81))
  have H80 := Lib.hid (heap_alloc_new (w.alloc (.cells #[.int .i64 0, .int .i64 0, .int .i64 0, .slice none 0 0] 81)) (.cells #[.int .i64 0, .int .i64 0, .int .i64 0, .slice none 0 0] 81))
  go_enter Tryz.func102, Tryz.ntmps102
  go_wp2_with fail
  go_step3
  go_wp2_with fail
  go_step3
  go_wp2_with fail
  go_loopw [9, 15] (fun v i wr => ∃ k : Nat, i = .int .i64 (k : Int) ∧ v = .bool false ∧ k ≤ 6 ∧ (∀ j, j < k → pAt j < key) ∧ Below w.heap.size w wr ∧ w.heap.size + 2 ≤ wr.heap.size ∧ wr.heap[w.heap.size]? = some (.cells #[.int .i64 0, .int .i64 0, .int .i64 0, .slice none 0 0] 81 (0, 0)) ∧ wr.heap[w.heap.size + 1]? = some (.cells #[.int .i64 0, .int .i64 0, .int .i64 0, .slice none 0 0] 81 (0, 0))) (fun _ i _ => 6 - (intOf i).toNat)
  case atStart =>
    refine ⟨0, rfl, rfl, by omega, fun j hj => absurd hj (by omega), ((Below.refl _ _).alloc (Nat.le_refl _) _).alloc (by simp) _, by simp, ?_, ?_⟩
    · rw [Below.heap_alloc _ _ _ (by simp)]
      exact H60.out
    · have := H80.out
      simpa using this
  case round =>
    obtain ⟨k, rfl, rfl, hk, hall, hb, hs2, h6, h8⟩ := hrel
    have HA := Lib.hid hall
    have H6 := Lib.hid h6
    have H8 := Lib.hid h8
    have l6 : w.heap.size < wr.heap.size := by omega
    have l8 : w.heap.size + 1 < wr.heap.size := by omega
    clear hall h6 h8 H60 H80
    by_cases hkn : k < 6
    · have hi1 : (0 : Int) ≤ (k : Int) := by omega
      have hi2 : (k : Int) < 6 := by omega
      have HCs := Lib.hid (fun j v hv => (HT.out.kept hb).cells hkn (B := B) j v hv)
      have HP := Lib.hid (dxAt_p B k)
      have HX := Lib.hid (show ∀ q, pAt k = q → q = key → dxD B key = dxAt B k from fun q h1 h2 => by unfold dxD; rw [ixD_of hkn (h1.trans h2)])
      generalize hx : dxAt B k = x at *
      obtain ⟨p, s, r, a, n⟩ := x
      unfold dxL at HCs
      dsimp only at *
      go_wp2_with (first
        | (refine wpList_load_cells rfl 81 (.tmp 17) rfl G (k * 4) rfl [.int .i64 p, .int .i64 s, .int .i64 r, .slice a n n] HCs.out _ Tryz.underlying81 rfl (by kernel_rfl) ?_)
        | (refine wpList_alloc_h rfl 81 rfl (.agg #[.int .i64 0, .int .i64 0, .int .i64 0, .slice none 0 0]) (by kernel_rfl) #[.int .i64 0, .int .i64 0, .int .i64 0, .slice none 0 0] rfl ?_; intro w1 R1 e1 g1 b1; have HL1 := Lib.hid (show Lg wr w1 [(R1, #[.int .i64 0, .int .i64 0, .int .i64 0, .slice none 0 0], 81)] [] from (Lg.first wr).box e1 g1 b1); clear g1 b1 e1)
        | (refine wpList_put_at rfl 81 (.tmp 11) (.tmp 18) rfl rfl (R1) 0 rfl (.agg #[.int .i64 p, .int .i64 s, .int .i64 r, .slice a n n]) rfl #[.int .i64 p, .int .i64 s, .int .i64 r, .slice a n n] rfl 81 #[.int .i64 0, .int .i64 0, .int .i64 0, .slice none 0 0] #[.int .i64 p, .int .i64 s, .int .i64 r, .slice a n n] (HL1.out.get (.head _)) (by kernel_rfl) (by kernel_rfl) (by kernel_rfl) (by kernel_rfl) ?_; intro w2 g2 o2; have HL2 := Lib.hid (show Lg wr w2 [(R1, #[.int .i64 p, .int .i64 s, .int .i64 r, .slice a n n], 81)] [] from HL1.out.put 0 rfl g2 o2 (fun _ h => nomatch h) (fun _ h => nomatch h) rfl); clear g2 o2)
        | (refine wpList_load_at rfl 81 (.tmp 11) rfl (R1) 0 rfl 81 #[.int .i64 p, .int .i64 s, .int .i64 r, .slice a n n] (0, 0) (HL2.out.get (.head _)) [.int .i64 p, .int .i64 s, .int .i64 r, .slice a n n] rfl _ Tryz.underlying81 rfl (by kernel_rfl) ?_))
      refine (pgnOf_any ⟨p, s, r, a, n⟩ _).mono ?_
      rintro e w3 ⟨rfl, h⟩
      have HL3 := Lib.hid (show Lg wr w3 [(R1, #[.int .i64 p, .int .i64 s, .int .i64 r, .slice a n n], 81)] [] from HL2.out.kept h)
      clear h
      have HZ6 := Lib.hid ((HL3.out.below.block w.heap.size l6).trans H6.out)
      have HZ8 := Lib.hid ((HL3.out.below.block (w.heap.size + 1) l8).trans H8.out)
      rcases Int.lt_trichotomy p key with hlt | heq | hgt
      · have e1 : (p == key) = false := by simp; omega
        have e2 : decide (key < p) = false := decide_eq_false (by omega)
        go_wp2_with fail
        go_roundw
        case rel =>
          refine ⟨k + 1, by go_num, rfl, by omega, fun j hj => ?_, hb.trans (HL3.out.below.mono hb.size), Nat.le_trans hs2 HL3.out.below.size, HZ6.out, HZ8.out⟩
          rcases Nat.lt_or_ge j k with h | h
          · exact HA.out j h
          · obtain rfl : j = k := by omega
            rw [← HP.out]
            exact hlt
        case measure => simp [intOf]; omega
      · subst heq
        have e1 : (p == p) = true := by simp
        have HV := Lib.hid (HX.out p HP.out.symm rfl)
        have HI := Lib.hid (show decide (ixD p < 6) = true from decide_eq_true (by rw [ixD_of hkn HP.out.symm]; exact hkn))
        clear HX
        have l63 := Nat.lt_of_lt_of_le l6 HL3.out.below.size
        go_wp2_with (first
          | (refine wpList_load_at rfl 81 (.tmp 11) rfl (R1) 0 rfl 81 #[.int .i64 p, .int .i64 s, .int .i64 r, .slice a n n] (0, 0) (HL3.out.get (.head _)) [.int .i64 p, .int .i64 s, .int .i64 r, .slice a n n] rfl _ Tryz.underlying81 rfl (by kernel_rfl) ?_)
          | (refine wpList_put_at rfl 81 (.tmp 8) (.tmp 26) rfl rfl (w.heap.size + 1) 0 rfl (.agg #[.int .i64 p, .int .i64 s, .int .i64 r, .slice a n n]) rfl #[.int .i64 p, .int .i64 s, .int .i64 r, .slice a n n] rfl 81 #[.int .i64 0, .int .i64 0, .int .i64 0, .slice none 0 0] #[.int .i64 p, .int .i64 s, .int .i64 r, .slice a n n] HZ8.out (by kernel_rfl) (by kernel_rfl) (by kernel_rfl) (by kernel_rfl) ?_; intro w4 g4 o4; have HG4 := Lib.hid g4; have HO4 := Lib.hid o4; have HZ64 := Lib.hid ((o4.block w.heap.size l63 (.inl (Nat.lt_succ_self _))).trans HZ6.out); clear g4 o4)
          | (refine wpList_load_at rfl 81 (.tmp 8) rfl (w.heap.size + 1) 0 rfl 81 #[.int .i64 p, .int .i64 s, .int .i64 r, .slice a n n] (0, 0) HG4.out [.int .i64 p, .int .i64 s, .int .i64 r, .slice a n n] rfl _ Tryz.underlying81 rfl (by kernel_rfl) ?_)
          | (refine wpList_put_at rfl 81 (.tmp 6) (.tmp 32) rfl rfl (w.heap.size) 0 rfl (.agg #[.int .i64 p, .int .i64 s, .int .i64 r, .slice a n n]) rfl #[.int .i64 p, .int .i64 s, .int .i64 r, .slice a n n] rfl 81 #[.int .i64 0, .int .i64 0, .int .i64 0, .slice none 0 0] #[.int .i64 p, .int .i64 s, .int .i64 r, .slice a n n] HZ64.out (by kernel_rfl) (by kernel_rfl) (by kernel_rfl) (by kernel_rfl) ?_; intro w5 g5 o5; have HG5 := Lib.hid g5; have HO5 := Lib.hid o5; clear g5 o5))
        have c0 := cell_of_row w5 w.heap.size 0 _ _ (0, 0) HG5.out
        have c1 := cell_of_row w5 w.heap.size 1 _ _ (0, 0) HG5.out
        have c2 := cell_of_row w5 w.heap.size 2 _ _ (0, 0) HG5.out
        have c3 := cell_of_row w5 w.heap.size 3 _ _ (0, 0) HG5.out
        simp only [List.getElem?_toArray, List.getElem?_cons_zero, List.getElem?_cons_succ] at c0 c1 c2 c3
        rw [Exit.noGoto_ret]
        exact bodyPost_ret (v := .tuple #[.agg #[.int .i64 p, .int .i64 s, .int .i64 r, .slice a n n], .bool true]) (by simp [results, Tryz.results102, go_sem, c0, c1, c2, c3]) rfl ⟨by rw [HV.out, HI.out]; rfl, HO5.out.below (HO4.out.below (hb.trans (HL3.out.below.mono hb.size)) (Nat.le_succ _) (Nat.le_trans hb.size HL3.out.below.size)) (Nat.le_refl _) (Nat.le_trans (Nat.le_trans hb.size HL3.out.below.size) HO4.out.size)⟩
      · have e1 : (p == key) = false := by simp; omega
        have e2 : decide (key < p) = true := decide_eq_true (by omega)
        have HI := Lib.hid (show ixD key = 6 from ixD_no (Nat.le_of_lt hkn) HA.out (fun _ => by rw [← HP.out]; exact hgt))
        go_wp2_with (first
          | (refine wpList_load_at rfl 81 (.tmp 8) rfl (w.heap.size + 1) 0 rfl 81 #[.int .i64 0, .int .i64 0, .int .i64 0, .slice none 0 0] (0, 0) HZ8.out [.int .i64 0, .int .i64 0, .int .i64 0, .slice none 0 0] rfl _ Tryz.underlying81 rfl (by kernel_rfl) ?_)
          | (refine wpList_put_at rfl 81 (.tmp 6) (.tmp 32) rfl rfl (w.heap.size) 0 rfl (.agg #[.int .i64 0, .int .i64 0, .int .i64 0, .slice none 0 0]) rfl #[.int .i64 0, .int .i64 0, .int .i64 0, .slice none 0 0] rfl 81 #[.int .i64 0, .int .i64 0, .int .i64 0, .slice none 0 0] #[.int .i64 0, .int .i64 0, .int .i64 0, .slice none 0 0] HZ6.out (by kernel_rfl) (by kernel_rfl) (by kernel_rfl) (by kernel_rfl) ?_; intro w5 g5 o5; have HG5 := Lib.hid g5; have HO5 := Lib.hid o5; clear g5 o5))
        have c0 := cell_of_row w5 w.heap.size 0 _ _ (0, 0) HG5.out
        have c1 := cell_of_row w5 w.heap.size 1 _ _ (0, 0) HG5.out
        have c2 := cell_of_row w5 w.heap.size 2 _ _ (0, 0) HG5.out
        have c3 := cell_of_row w5 w.heap.size 3 _ _ (0, 0) HG5.out
        simp only [List.getElem?_toArray, List.getElem?_cons_zero, List.getElem?_cons_succ] at c0 c1 c2 c3
        rw [Exit.noGoto_ret]
        exact bodyPost_ret (v := .tuple #[.agg #[.int .i64 0, .int .i64 0, .int .i64 0, .slice none 0 0], .bool false]) (by simp [results, Tryz.results102, go_sem, c0, c1, c2, c3]) rfl ⟨by unfold dxD; rw [HI.out]; rfl, HO5.out.below (hb.trans (HL3.out.below.mono hb.size)) (Nat.le_refl _) (Nat.le_trans hb.size HL3.out.below.size)⟩
    · have HI := Lib.hid (show ixD key = 6 from ixD_no (i := 6) (Nat.le_refl _) (fun j hj => HA.out j (by omega)) (fun h => absurd h (by omega)))
      go_wp2_with (first
        | (refine wpList_load_at rfl 81 (.tmp 8) rfl (w.heap.size + 1) 0 rfl 81 #[.int .i64 0, .int .i64 0, .int .i64 0, .slice none 0 0] (0, 0) H8.out [.int .i64 0, .int .i64 0, .int .i64 0, .slice none 0 0] rfl _ Tryz.underlying81 rfl (by kernel_rfl) ?_)
        | (refine wpList_put_at rfl 81 (.tmp 6) (.tmp 32) rfl rfl (w.heap.size) 0 rfl (.agg #[.int .i64 0, .int .i64 0, .int .i64 0, .slice none 0 0]) rfl #[.int .i64 0, .int .i64 0, .int .i64 0, .slice none 0 0] rfl 81 #[.int .i64 0, .int .i64 0, .int .i64 0, .slice none 0 0] #[.int .i64 0, .int .i64 0, .int .i64 0, .slice none 0 0] H6.out (by kernel_rfl) (by kernel_rfl) (by kernel_rfl) (by kernel_rfl) ?_; intro w5 g5 o5; have HG5 := Lib.hid g5; have HO5 := Lib.hid o5; clear g5 o5))
      have c0 := cell_of_row w5 w.heap.size 0 _ _ (0, 0) HG5.out
      have c1 := cell_of_row w5 w.heap.size 1 _ _ (0, 0) HG5.out
      have c2 := cell_of_row w5 w.heap.size 2 _ _ (0, 0) HG5.out
      have c3 := cell_of_row w5 w.heap.size 3 _ _ (0, 0) HG5.out
      simp only [List.getElem?_toArray, List.getElem?_cons_zero, List.getElem?_cons_succ] at c0 c1 c2 c3
      rw [Exit.noGoto_ret]
      exact bodyPost_ret (v := .tuple #[.agg #[.int .i64 0, .int .i64 0, .int .i64 0, .slice none 0 0], .bool false]) (by simp [results, Tryz.results102, go_sem, c0, c1, c2, c3]) rfl ⟨by unfold dxD; rw [HI.out]; rfl, HO5.out.below hb (Nat.le_refl _) hb.size⟩
end Go.Proofs.YtioldepgoodipaaGreat
/- The row of one group: the program's and the model's. Its Fields stand in memory of the call's own. -/
namespace Go.Proofs.YtioldepgoodipaaGreat
open Go.RowKit
set_option linter.unusedVariables false

/-- Where its Fields stand. -/
def aD (B : Nat) (p : Int) : Option Addr := if ixD p < 6 then some ⟨B + ixD p, 0, none⟩ else none
theorem dxD_eq (B : Nat) (p : Int) : dxD B p = ⟨(defD p).p, (defD p).s, (defD p).r, aD B p, (defD p).fs.length⟩ := by
  have h := ixD_le p
  unfold dxD defD aD
  generalize ixD p = i at *
  rcases i with _ | _ | _ | _ | _ | _ | _ | i
  all_goals first | rfl | omega
theorem TabAt.hi {B G : Nat} {w : World} (h : TabAt B G w) : B + 6 ≤ w.heap.size := (Array.getElem?_eq_some_iff.1 (h.flds 5 _ rfl)).1
theorem rowOf_d (B G : Nat) (p : Int) (w : World) (h : TabAt B G w) :
    Calls Tryz.prog 102 #[.slice (some ⟨G, 0, none⟩) 6 6, .int .i64 p, .func (.func 104) #[] #[]] w fun e w' => e = .returned (.tuple #[.agg #[.int .i64 (defD p).p, .int .i64 (defD p).s, .int .i64 (defD p).r, .slice (aD B p) (defD p).fs.length (defD p).fs.length], .bool (decide (ixD p < 6))]) ∧ Below w.heap.size w w' := by
  have := rowOf_any B G p w h
  rw [dxD_eq] at this
  exact this
/-- What DefOf answers. -/
def DefOut (p : Int) (w : World) (e : Ending) (w' : World) : Prop :=
  ∃ a, e = .returned (.agg #[.int .i64 (defD p).p, .int .i64 (defD p).s, .int .i64 (defD p).r, .slice a (defD p).fs.length (defD p).fs.length]) ∧ RsNew fdL 3 147 w.heap.size w'.heap.size w' a (defD p).fs ∧ Below w.heap.size w w'

theorem l08Plain_any (a b : Int) (w : World) :
    Calls Tryz.prog 84 #[.int .i64 a, .int .i64 b] w fun e w' => e = .returned (.agg #[.int .i64 a, .int .i64 b, .bool false]) ∧ Below w.heap.size w w' := by
  go_enter Tryz.func84, Tryz.ntmps84
  go_wp2
  exact bodyPost_ret (v := .agg #[.int .i64 a, .int .i64 b, .bool false]) (by simp [results, Tryz.results84, go_sem]) rfl ⟨rfl, (Below.refl _ _).alloc (Nat.le_refl _) _⟩
theorem l08Signed_any (a b : Int) (w : World) :
    Calls Tryz.prog 85 #[.int .i64 a, .int .i64 b] w fun e w' => e = .returned (.agg #[.int .i64 a, .int .i64 b, .bool true]) ∧ Below w.heap.size w w' := by
  go_enter Tryz.func85, Tryz.ntmps85
  go_wp2
  exact bodyPost_ret (v := .agg #[.int .i64 a, .int .i64 b, .bool true]) (by simp [results, Tryz.results85, go_sem]) rfl ⟨rfl, (Below.refl _ _).alloc (Nat.le_refl _) _⟩
set_option maxRecDepth 100000 in
set_option maxHeartbeats 4000000 in
theorem specDefOf_0 (w : World) : Calls Tryz.prog 33 #[.int .i64 127250] w (DefOut 127250 w) := by
  unfold DefOut
  have hd : defD 127250 = ⟨127250, 8, 2, [⟨0, 8, false⟩, ⟨8, 16, false⟩, ⟨24, 16, true⟩, ⟨40, 16, true⟩, ⟨56, 2, false⟩]⟩ := rfl
  rw [hd]
  dsimp only [List.length_cons, List.length_nil]
  clear hd
  go_enter Tryz.func33, Tryz.ntmps33
  go_wp2_with (first
    | (refine wpList_alloc_h rfl 81 rfl (.agg #[.int .i64 0, .int .i64 0, .int .i64 0, .slice none 0 0]) (by kernel_rfl) #[.int .i64 0, .int .i64 0, .int .i64 0, .slice none 0 0] rfl ?_; intro w1 R1 e1 g1 b1; have HL1 := Lib.hid (show Lg w w1 [(R1, #[.int .i64 0, .int .i64 0, .int .i64 0, .slice none 0 0], 81)] [] from (Lg.first w).box e1 g1 b1); clear g1 b1 e1))
  refine (l08Plain_any 0 8 _).mono ?_
  rintro e w2 ⟨rfl, h⟩
  have HL2 := Lib.hid (show Lg w w2 [(R1, #[.int .i64 0, .int .i64 0, .int .i64 0, .slice none 0 0], 81)] [] from HL1.out.kept h)
  clear h
  go_wp2_with fail
  refine (l08Plain_any 8 16 _).mono ?_
  rintro e w3 ⟨rfl, h⟩
  have HL3 := Lib.hid (show Lg w w3 [(R1, #[.int .i64 0, .int .i64 0, .int .i64 0, .slice none 0 0], 81)] [] from HL2.out.kept h)
  clear h
  go_wp2_with fail
  refine (l08Signed_any 24 16 _).mono ?_
  rintro e w4 ⟨rfl, h⟩
  have HL4 := Lib.hid (show Lg w w4 [(R1, #[.int .i64 0, .int .i64 0, .int .i64 0, .slice none 0 0], 81)] [] from HL3.out.kept h)
  clear h
  go_wp2_with fail
  refine (l08Signed_any 40 16 _).mono ?_
  rintro e w5 ⟨rfl, h⟩
  have HL5 := Lib.hid (show Lg w w5 [(R1, #[.int .i64 0, .int .i64 0, .int .i64 0, .slice none 0 0], 81)] [] from HL4.out.kept h)
  clear h
  go_wp2_with fail
  refine (l08Plain_any 56 2 _).mono ?_
  rintro e w6 ⟨rfl, h⟩
  have HL6 := Lib.hid (show Lg w w6 [(R1, #[.int .i64 0, .int .i64 0, .int .i64 0, .slice none 0 0], 81)] [] from HL5.out.kept h)
  clear h
  obtain ⟨L, eL⟩ : ∃ x, w6.heap.size = x := ⟨_, rfl⟩
  obtain ⟨U, eU⟩ : ∃ U, w6.alloc (.cells #[.int .i64 0, .int .i64 8, .bool false, .int .i64 8, .int .i64 16, .bool false, .int .i64 24, .int .i64 16, .bool true, .int .i64 40, .int .i64 16, .bool true, .int .i64 56, .int .i64 2, .bool false] 147) = U := ⟨_, rfl⟩
  obtain ⟨H, eH⟩ : ∃ x, U.heap.size = x := ⟨_, rfl⟩
  have hbU : Below w6.heap.size w6 U := by rw [← eU]; exact (Below.refl _ _).alloc (Nat.le_refl _) _
  have hnU : RsNew fdL 3 147 L H U (some ⟨L, 0, none⟩) [⟨0, 8, false⟩, ⟨8, 16, false⟩, ⟨24, 16, true⟩, ⟨40, 16, true⟩, ⟨56, 2, false⟩] := .inr ⟨L, 0, _, rfl, Nat.le_refl _, by rw [← eL, ← eH, ← eU]; simp, by rw [← eL, ← eU]; exact heap_alloc_new _ _, by decide, fun i y hy j v hv => by
      have := flat_at fdL 3 fdL_len [⟨0, 8, false⟩, ⟨8, 16, false⟩, ⟨24, 16, true⟩, ⟨40, 16, true⟩, ⟨56, 2, false⟩] i y hy j v hv
      simpa [fdL] using this⟩
  have qL_R1 : R1 < L := Nat.lt_of_lt_of_eq (HL6.out.lt (.head _)) eL
  have HL7 := Lib.hid (show Lg w U [(R1, #[.int .i64 0, .int .i64 0, .int .i64 0, .slice none 0 0], 81)] [(L, H, fun W => RsNew fdL 3 147 L H W (some ⟨L, 0, none⟩) [⟨0, 8, false⟩, ⟨8, 16, false⟩, ⟨24, 16, true⟩, ⟨40, 16, true⟩, ⟨56, 2, false⟩])] from HL6.out.made eL eH hbU hnU.solid)
  clear hbU hnU
  go_wp2_with (first
    | (rw [eU, eL]; refine wpList_put_at rfl 81 (.tmp 2) (.tmp 13) rfl rfl (R1) 0 rfl (.agg #[.int .i64 127250, .int .i64 8, .int .i64 2, .slice (some ⟨L, 0, none⟩) 5 5]) rfl #[.int .i64 127250, .int .i64 8, .int .i64 2, .slice (some ⟨L, 0, none⟩) 5 5] rfl 81 #[.int .i64 0, .int .i64 0, .int .i64 0, .slice none 0 0] #[.int .i64 127250, .int .i64 8, .int .i64 2, .slice (some ⟨L, 0, none⟩) 5 5] (HL7.out.get (.head _)) (by kernel_rfl) (by kernel_rfl) (by kernel_rfl) (by kernel_rfl) ?_; intro w8 g8 o8; have HL8 := Lib.hid (show Lg w w8 [(R1, #[.int .i64 127250, .int .i64 8, .int .i64 2, .slice (some ⟨L, 0, none⟩) 5 5], 81)] [(L, H, fun W => RsNew fdL 3 147 L H W (some ⟨L, 0, none⟩) [⟨0, 8, false⟩, ⟨8, 16, false⟩, ⟨24, 16, true⟩, ⟨40, 16, true⟩, ⟨56, 2, false⟩])] from HL7.out.put 0 rfl g8 o8 (fun _ h => nomatch h) (List.forall_mem_cons.2 ⟨.inr qL_R1, (fun _ h => nomatch h)⟩) rfl); clear g8 o8)
    | (refine wpList_put_at rfl 81 (.tmp 2) (.tmp 13) rfl rfl (R1) 0 rfl (.agg #[.int .i64 127250, .int .i64 8, .int .i64 2, .slice (some ⟨L, 0, none⟩) 5 5]) rfl #[.int .i64 127250, .int .i64 8, .int .i64 2, .slice (some ⟨L, 0, none⟩) 5 5] rfl 81 #[.int .i64 0, .int .i64 0, .int .i64 0, .slice none 0 0] #[.int .i64 127250, .int .i64 8, .int .i64 2, .slice (some ⟨L, 0, none⟩) 5 5] (HL7.out.get (.head _)) (by kernel_rfl) (by kernel_rfl) (by kernel_rfl) (by kernel_rfl) ?_; intro w8 g8 o8; have HL8 := Lib.hid (show Lg w w8 [(R1, #[.int .i64 127250, .int .i64 8, .int .i64 2, .slice (some ⟨L, 0, none⟩) 5 5], 81)] [(L, H, fun W => RsNew fdL 3 147 L H W (some ⟨L, 0, none⟩) [⟨0, 8, false⟩, ⟨8, 16, false⟩, ⟨24, 16, true⟩, ⟨40, 16, true⟩, ⟨56, 2, false⟩])] from HL7.out.put 0 rfl g8 o8 (fun _ h => nomatch h) (List.forall_mem_cons.2 ⟨.inr qL_R1, (fun _ h => nomatch h)⟩) rfl); clear g8 o8))
  exact bodyPost_ret (results_cell_row (p := 2) (ty := 81) (by kernel_rfl) _ _ (R1) 81 _ (0, 0) _ rfl (HL8.out.get (.head _)) Tryz.underlying81 rfl (by kernel_rfl)) rfl ⟨_, rfl, ((HL8.out.at (.head _)).wide (HL8.out.lo (.head _)) (HL8.out.hi (.head _)).2), HL8.out.below⟩
set_option maxRecDepth 100000 in
set_option maxHeartbeats 4000000 in
theorem specDefOf_1 (w : World) : Calls Tryz.prog 33 #[.int .i64 127488] w (DefOut 127488 w) := by
  unfold DefOut
  have hd : defD 127488 = ⟨127488, 8, 2, [⟨0, 8, false⟩, ⟨8, 16, false⟩, ⟨24, 16, false⟩, ⟨40, 8, true⟩]⟩ := rfl
  rw [hd]
  dsimp only [List.length_cons, List.length_nil]
  clear hd
  have n0 : ((127488 : Int) == 127250) = false := by decide
  go_enter Tryz.func33, Tryz.ntmps33
  go_wp2_with (first
    | (refine wpList_alloc_h rfl 81 rfl (.agg #[.int .i64 0, .int .i64 0, .int .i64 0, .slice none 0 0]) (by kernel_rfl) #[.int .i64 0, .int .i64 0, .int .i64 0, .slice none 0 0] rfl ?_; intro w1 R1 e1 g1 b1; have HL1 := Lib.hid (show Lg w w1 [(R1, #[.int .i64 0, .int .i64 0, .int .i64 0, .slice none 0 0], 81)] [] from (Lg.first w).box e1 g1 b1); clear g1 b1 e1))
  refine (l08Plain_any 0 8 _).mono ?_
  rintro e w2 ⟨rfl, h⟩
  have HL2 := Lib.hid (show Lg w w2 [(R1, #[.int .i64 0, .int .i64 0, .int .i64 0, .slice none 0 0], 81)] [] from HL1.out.kept h)
  clear h
  go_wp2_with fail
  refine (l08Plain_any 8 16 _).mono ?_
  rintro e w3 ⟨rfl, h⟩
  have HL3 := Lib.hid (show Lg w w3 [(R1, #[.int .i64 0, .int .i64 0, .int .i64 0, .slice none 0 0], 81)] [] from HL2.out.kept h)
  clear h
  go_wp2_with fail
  refine (l08Plain_any 24 16 _).mono ?_
  rintro e w4 ⟨rfl, h⟩
  have HL4 := Lib.hid (show Lg w w4 [(R1, #[.int .i64 0, .int .i64 0, .int .i64 0, .slice none 0 0], 81)] [] from HL3.out.kept h)
  clear h
  go_wp2_with fail
  refine (l08Signed_any 40 8 _).mono ?_
  rintro e w5 ⟨rfl, h⟩
  have HL5 := Lib.hid (show Lg w w5 [(R1, #[.int .i64 0, .int .i64 0, .int .i64 0, .slice none 0 0], 81)] [] from HL4.out.kept h)
  clear h
  obtain ⟨L, eL⟩ : ∃ x, w5.heap.size = x := ⟨_, rfl⟩
  obtain ⟨U, eU⟩ : ∃ U, w5.alloc (.cells #[.int .i64 0, .int .i64 8, .bool false, .int .i64 8, .int .i64 16, .bool false, .int .i64 24, .int .i64 16, .bool false, .int .i64 40, .int .i64 8, .bool true] 147) = U := ⟨_, rfl⟩
  obtain ⟨H, eH⟩ : ∃ x, U.heap.size = x := ⟨_, rfl⟩
  have hbU : Below w5.heap.size w5 U := by rw [← eU]; exact (Below.refl _ _).alloc (Nat.le_refl _) _
  have hnU : RsNew fdL 3 147 L H U (some ⟨L, 0, none⟩) [⟨0, 8, false⟩, ⟨8, 16, false⟩, ⟨24, 16, false⟩, ⟨40, 8, true⟩] := .inr ⟨L, 0, _, rfl, Nat.le_refl _, by rw [← eL, ← eH, ← eU]; simp, by rw [← eL, ← eU]; exact heap_alloc_new _ _, by decide, fun i y hy j v hv => by
      have := flat_at fdL 3 fdL_len [⟨0, 8, false⟩, ⟨8, 16, false⟩, ⟨24, 16, false⟩, ⟨40, 8, true⟩] i y hy j v hv
      simpa [fdL] using this⟩
  have qL_R1 : R1 < L := Nat.lt_of_lt_of_eq (HL5.out.lt (.head _)) eL
  have HL6 := Lib.hid (show Lg w U [(R1, #[.int .i64 0, .int .i64 0, .int .i64 0, .slice none 0 0], 81)] [(L, H, fun W => RsNew fdL 3 147 L H W (some ⟨L, 0, none⟩) [⟨0, 8, false⟩, ⟨8, 16, false⟩, ⟨24, 16, false⟩, ⟨40, 8, true⟩])] from HL5.out.made eL eH hbU hnU.solid)
  clear hbU hnU
  go_wp2_with (first
    | (rw [eU, eL]; refine wpList_put_at rfl 81 (.tmp 2) (.tmp 22) rfl rfl (R1) 0 rfl (.agg #[.int .i64 127488, .int .i64 8, .int .i64 2, .slice (some ⟨L, 0, none⟩) 4 4]) rfl #[.int .i64 127488, .int .i64 8, .int .i64 2, .slice (some ⟨L, 0, none⟩) 4 4] rfl 81 #[.int .i64 0, .int .i64 0, .int .i64 0, .slice none 0 0] #[.int .i64 127488, .int .i64 8, .int .i64 2, .slice (some ⟨L, 0, none⟩) 4 4] (HL6.out.get (.head _)) (by kernel_rfl) (by kernel_rfl) (by kernel_rfl) (by kernel_rfl) ?_; intro w7 g7 o7; have HL7 := Lib.hid (show Lg w w7 [(R1, #[.int .i64 127488, .int .i64 8, .int .i64 2, .slice (some ⟨L, 0, none⟩) 4 4], 81)] [(L, H, fun W => RsNew fdL 3 147 L H W (some ⟨L, 0, none⟩) [⟨0, 8, false⟩, ⟨8, 16, false⟩, ⟨24, 16, false⟩, ⟨40, 8, true⟩])] from HL6.out.put 0 rfl g7 o7 (fun _ h => nomatch h) (List.forall_mem_cons.2 ⟨.inr qL_R1, (fun _ h => nomatch h)⟩) rfl); clear g7 o7)
    | (refine wpList_put_at rfl 81 (.tmp 2) (.tmp 22) rfl rfl (R1) 0 rfl (.agg #[.int .i64 127488, .int .i64 8, .int .i64 2, .slice (some ⟨L, 0, none⟩) 4 4]) rfl #[.int .i64 127488, .int .i64 8, .int .i64 2, .slice (some ⟨L, 0, none⟩) 4 4] rfl 81 #[.int .i64 0, .int .i64 0, .int .i64 0, .slice none 0 0] #[.int .i64 127488, .int .i64 8, .int .i64 2, .slice (some ⟨L, 0, none⟩) 4 4] (HL6.out.get (.head _)) (by kernel_rfl) (by kernel_rfl) (by kernel_rfl) (by kernel_rfl) ?_; intro w7 g7 o7; have HL7 := Lib.hid (show Lg w w7 [(R1, #[.int .i64 127488, .int .i64 8, .int .i64 2, .slice (some ⟨L, 0, none⟩) 4 4], 81)] [(L, H, fun W => RsNew fdL 3 147 L H W (some ⟨L, 0, none⟩) [⟨0, 8, false⟩, ⟨8, 16, false⟩, ⟨24, 16, false⟩, ⟨40, 8, true⟩])] from HL6.out.put 0 rfl g7 o7 (fun _ h => nomatch h) (List.forall_mem_cons.2 ⟨.inr qL_R1, (fun _ h => nomatch h)⟩) rfl); clear g7 o7))
  exact bodyPost_ret (results_cell_row (p := 2) (ty := 81) (by kernel_rfl) _ _ (R1) 81 _ (0, 0) _ rfl (HL7.out.get (.head _)) Tryz.underlying81 rfl (by kernel_rfl)) rfl ⟨_, rfl, ((HL7.out.at (.head _)).wide (HL7.out.lo (.head _)) (HL7.out.hi (.head _)).2), HL7.out.below⟩
set_option maxRecDepth 100000 in
set_option maxHeartbeats 4000000 in
theorem specDefOf_2 (w : World) : Calls Tryz.prog 33 #[.int .i64 128267] w (DefOut 128267 w) := by
  unfold DefOut
  have hd : defD 128267 = ⟨128267, 8, 3, [⟨0, 8, false⟩, ⟨8, 32, false⟩, ⟨40, 16, true⟩, ⟨56, 8, false⟩]⟩ := rfl
  rw [hd]
  dsimp only [List.length_cons, List.length_nil]
  clear hd
  have n0 : ((128267 : Int) == 127250) = false := by decide
  have n1 : ((128267 : Int) == 127488) = false := by decide
  go_enter Tryz.func33, Tryz.ntmps33
  go_wp2_with (first
    | (refine wpList_alloc_h rfl 81 rfl (.agg #[.int .i64 0, .int .i64 0, .int .i64 0, .slice none 0 0]) (by kernel_rfl) #[.int .i64 0, .int .i64 0, .int .i64 0, .slice none 0 0] rfl ?_; intro w1 R1 e1 g1 b1; have HL1 := Lib.hid (show Lg w w1 [(R1, #[.int .i64 0, .int .i64 0, .int .i64 0, .slice none 0 0], 81)] [] from (Lg.first w).box e1 g1 b1); clear g1 b1 e1))
  refine (l08Plain_any 0 8 _).mono ?_
  rintro e w2 ⟨rfl, h⟩
  have HL2 := Lib.hid (show Lg w w2 [(R1, #[.int .i64 0, .int .i64 0, .int .i64 0, .slice none 0 0], 81)] [] from HL1.out.kept h)
  clear h
  go_wp2_with fail
  refine (l08Plain_any 8 32 _).mono ?_
  rintro e w3 ⟨rfl, h⟩
  have HL3 := Lib.hid (show Lg w w3 [(R1, #[.int .i64 0, .int .i64 0, .int .i64 0, .slice none 0 0], 81)] [] from HL2.out.kept h)
  clear h
  go_wp2_with fail
  refine (l08Signed_any 40 16 _).mono ?_
  rintro e w4 ⟨rfl, h⟩
  have HL4 := Lib.hid (show Lg w w4 [(R1, #[.int .i64 0, .int .i64 0, .int .i64 0, .slice none 0 0], 81)] [] from HL3.out.kept h)
  clear h
  go_wp2_with fail
  refine (l08Plain_any 56 8 _).mono ?_
  rintro e w5 ⟨rfl, h⟩
  have HL5 := Lib.hid (show Lg w w5 [(R1, #[.int .i64 0, .int .i64 0, .int .i64 0, .slice none 0 0], 81)] [] from HL4.out.kept h)
  clear h
  obtain ⟨L, eL⟩ : ∃ x, w5.heap.size = x := ⟨_, rfl⟩
  obtain ⟨U, eU⟩ : ∃ U, w5.alloc (.cells #[.int .i64 0, .int .i64 8, .bool false, .int .i64 8, .int .i64 32, .bool false, .int .i64 40, .int .i64 16, .bool true, .int .i64 56, .int .i64 8, .bool false] 147) = U := ⟨_, rfl⟩
  obtain ⟨H, eH⟩ : ∃ x, U.heap.size = x := ⟨_, rfl⟩
  have hbU : Below w5.heap.size w5 U := by rw [← eU]; exact (Below.refl _ _).alloc (Nat.le_refl _) _
  have hnU : RsNew fdL 3 147 L H U (some ⟨L, 0, none⟩) [⟨0, 8, false⟩, ⟨8, 32, false⟩, ⟨40, 16, true⟩, ⟨56, 8, false⟩] := .inr ⟨L, 0, _, rfl, Nat.le_refl _, by rw [← eL, ← eH, ← eU]; simp, by rw [← eL, ← eU]; exact heap_alloc_new _ _, by decide, fun i y hy j v hv => by
      have := flat_at fdL 3 fdL_len [⟨0, 8, false⟩, ⟨8, 32, false⟩, ⟨40, 16, true⟩, ⟨56, 8, false⟩] i y hy j v hv
      simpa [fdL] using this⟩
  have qL_R1 : R1 < L := Nat.lt_of_lt_of_eq (HL5.out.lt (.head _)) eL
  have HL6 := Lib.hid (show Lg w U [(R1, #[.int .i64 0, .int .i64 0, .int .i64 0, .slice none 0 0], 81)] [(L, H, fun W => RsNew fdL 3 147 L H W (some ⟨L, 0, none⟩) [⟨0, 8, false⟩, ⟨8, 32, false⟩, ⟨40, 16, true⟩, ⟨56, 8, false⟩])] from HL5.out.made eL eH hbU hnU.solid)
  clear hbU hnU
  go_wp2_with (first
    | (rw [eU, eL]; refine wpList_put_at rfl 81 (.tmp 2) (.tmp 31) rfl rfl (R1) 0 rfl (.agg #[.int .i64 128267, .int .i64 8, .int .i64 3, .slice (some ⟨L, 0, none⟩) 4 4]) rfl #[.int .i64 128267, .int .i64 8, .int .i64 3, .slice (some ⟨L, 0, none⟩) 4 4] rfl 81 #[.int .i64 0, .int .i64 0, .int .i64 0, .slice none 0 0] #[.int .i64 128267, .int .i64 8, .int .i64 3, .slice (some ⟨L, 0, none⟩) 4 4] (HL6.out.get (.head _)) (by kernel_rfl) (by kernel_rfl) (by kernel_rfl) (by kernel_rfl) ?_; intro w7 g7 o7; have HL7 := Lib.hid (show Lg w w7 [(R1, #[.int .i64 128267, .int .i64 8, .int .i64 3, .slice (some ⟨L, 0, none⟩) 4 4], 81)] [(L, H, fun W => RsNew fdL 3 147 L H W (some ⟨L, 0, none⟩) [⟨0, 8, false⟩, ⟨8, 32, false⟩, ⟨40, 16, true⟩, ⟨56, 8, false⟩])] from HL6.out.put 0 rfl g7 o7 (fun _ h => nomatch h) (List.forall_mem_cons.2 ⟨.inr qL_R1, (fun _ h => nomatch h)⟩) rfl); clear g7 o7)
    | (refine wpList_put_at rfl 81 (.tmp 2) (.tmp 31) rfl rfl (R1) 0 rfl (.agg #[.int .i64 128267, .int .i64 8, .int .i64 3, .slice (some ⟨L, 0, none⟩) 4 4]) rfl #[.int .i64 128267, .int .i64 8, .int .i64 3, .slice (some ⟨L, 0, none⟩) 4 4] rfl 81 #[.int .i64 0, .int .i64 0, .int .i64 0, .slice none 0 0] #[.int .i64 128267, .int .i64 8, .int .i64 3, .slice (some ⟨L, 0, none⟩) 4 4] (HL6.out.get (.head _)) (by kernel_rfl) (by kernel_rfl) (by kernel_rfl) (by kernel_rfl) ?_; intro w7 g7 o7; have HL7 := Lib.hid (show Lg w w7 [(R1, #[.int .i64 128267, .int .i64 8, .int .i64 3, .slice (some ⟨L, 0, none⟩) 4 4], 81)] [(L, H, fun W => RsNew fdL 3 147 L H W (some ⟨L, 0, none⟩) [⟨0, 8, false⟩, ⟨8, 32, false⟩, ⟨40, 16, true⟩, ⟨56, 8, false⟩])] from HL6.out.put 0 rfl g7 o7 (fun _ h => nomatch h) (List.forall_mem_cons.2 ⟨.inr qL_R1, (fun _ h => nomatch h)⟩) rfl); clear g7 o7))
  exact bodyPost_ret (results_cell_row (p := 2) (ty := 81) (by kernel_rfl) _ _ (R1) 81 _ (0, 0) _ rfl (HL7.out.get (.head _)) Tryz.underlying81 rfl (by kernel_rfl)) rfl ⟨_, rfl, ((HL7.out.at (.head _)).wide (HL7.out.lo (.head _)) (HL7.out.hi (.head _)).2), HL7.out.below⟩
set_option maxRecDepth 100000 in
set_option maxHeartbeats 4000000 in
theorem specDefOf_3 (w : World) : Calls Tryz.prog 33 #[.int .i64 128275] w (DefOut 128275 w) := by
  unfold DefOut
  have hd : defD 128275 = ⟨128275, 14, 6, [⟨0, 16, false⟩, ⟨16, 32, false⟩, ⟨48, 32, false⟩, ⟨80, 32, false⟩]⟩ := rfl
  rw [hd]
  dsimp only [List.length_cons, List.length_nil]
  clear hd
  have n0 : ((128275 : Int) == 127250) = false := by decide
  have n1 : ((128275 : Int) == 127488) = false := by decide
  have n2 : ((128275 : Int) == 128267) = false := by decide
  go_enter Tryz.func33, Tryz.ntmps33
  go_wp2_with (first
    | (refine wpList_alloc_h rfl 81 rfl (.agg #[.int .i64 0, .int .i64 0, .int .i64 0, .slice none 0 0]) (by kernel_rfl) #[.int .i64 0, .int .i64 0, .int .i64 0, .slice none 0 0] rfl ?_; intro w1 R1 e1 g1 b1; have HL1 := Lib.hid (show Lg w w1 [(R1, #[.int .i64 0, .int .i64 0, .int .i64 0, .slice none 0 0], 81)] [] from (Lg.first w).box e1 g1 b1); clear g1 b1 e1))
  refine (l08Plain_any 0 16 _).mono ?_
  rintro e w2 ⟨rfl, h⟩
  have HL2 := Lib.hid (show Lg w w2 [(R1, #[.int .i64 0, .int .i64 0, .int .i64 0, .slice none 0 0], 81)] [] from HL1.out.kept h)
  clear h
  go_wp2_with fail
  refine (l08Plain_any 16 32 _).mono ?_
  rintro e w3 ⟨rfl, h⟩
  have HL3 := Lib.hid (show Lg w w3 [(R1, #[.int .i64 0, .int .i64 0, .int .i64 0, .slice none 0 0], 81)] [] from HL2.out.kept h)
  clear h
  go_wp2_with fail
  refine (l08Plain_any 48 32 _).mono ?_
  rintro e w4 ⟨rfl, h⟩
  have HL4 := Lib.hid (show Lg w w4 [(R1, #[.int .i64 0, .int .i64 0, .int .i64 0, .slice none 0 0], 81)] [] from HL3.out.kept h)
  clear h
  go_wp2_with fail
  refine (l08Plain_any 80 32 _).mono ?_
  rintro e w5 ⟨rfl, h⟩
  have HL5 := Lib.hid (show Lg w w5 [(R1, #[.int .i64 0, .int .i64 0, .int .i64 0, .slice none 0 0], 81)] [] from HL4.out.kept h)
  clear h
  obtain ⟨L, eL⟩ : ∃ x, w5.heap.size = x := ⟨_, rfl⟩
  obtain ⟨U, eU⟩ : ∃ U, w5.alloc (.cells #[.int .i64 0, .int .i64 16, .bool false, .int .i64 16, .int .i64 32, .bool false, .int .i64 48, .int .i64 32, .bool false, .int .i64 80, .int .i64 32, .bool false] 147) = U := ⟨_, rfl⟩
  obtain ⟨H, eH⟩ : ∃ x, U.heap.size = x := ⟨_, rfl⟩
  have hbU : Below w5.heap.size w5 U := by rw [← eU]; exact (Below.refl _ _).alloc (Nat.le_refl _) _
  have hnU : RsNew fdL 3 147 L H U (some ⟨L, 0, none⟩) [⟨0, 16, false⟩, ⟨16, 32, false⟩, ⟨48, 32, false⟩, ⟨80, 32, false⟩] := .inr ⟨L, 0, _, rfl, Nat.le_refl _, by rw [← eL, ← eH, ← eU]; simp, by rw [← eL, ← eU]; exact heap_alloc_new _ _, by decide, fun i y hy j v hv => by
      have := flat_at fdL 3 fdL_len [⟨0, 16, false⟩, ⟨16, 32, false⟩, ⟨48, 32, false⟩, ⟨80, 32, false⟩] i y hy j v hv
      simpa [fdL] using this⟩
  have qL_R1 : R1 < L := Nat.lt_of_lt_of_eq (HL5.out.lt (.head _)) eL
  have HL6 := Lib.hid (show Lg w U [(R1, #[.int .i64 0, .int .i64 0, .int .i64 0, .slice none 0 0], 81)] [(L, H, fun W => RsNew fdL 3 147 L H W (some ⟨L, 0, none⟩) [⟨0, 16, false⟩, ⟨16, 32, false⟩, ⟨48, 32, false⟩, ⟨80, 32, false⟩])] from HL5.out.made eL eH hbU hnU.solid)
  clear hbU hnU
  go_wp2_with (first
    | (rw [eU, eL]; refine wpList_put_at rfl 81 (.tmp 2) (.tmp 40) rfl rfl (R1) 0 rfl (.agg #[.int .i64 128275, .int .i64 14, .int .i64 6, .slice (some ⟨L, 0, none⟩) 4 4]) rfl #[.int .i64 128275, .int .i64 14, .int .i64 6, .slice (some ⟨L, 0, none⟩) 4 4] rfl 81 #[.int .i64 0, .int .i64 0, .int .i64 0, .slice none 0 0] #[.int .i64 128275, .int .i64 14, .int .i64 6, .slice (some ⟨L, 0, none⟩) 4 4] (HL6.out.get (.head _)) (by kernel_rfl) (by kernel_rfl) (by kernel_rfl) (by kernel_rfl) ?_; intro w7 g7 o7; have HL7 := Lib.hid (show Lg w w7 [(R1, #[.int .i64 128275, .int .i64 14, .int .i64 6, .slice (some ⟨L, 0, none⟩) 4 4], 81)] [(L, H, fun W => RsNew fdL 3 147 L H W (some ⟨L, 0, none⟩) [⟨0, 16, false⟩, ⟨16, 32, false⟩, ⟨48, 32, false⟩, ⟨80, 32, false⟩])] from HL6.out.put 0 rfl g7 o7 (fun _ h => nomatch h) (List.forall_mem_cons.2 ⟨.inr qL_R1, (fun _ h => nomatch h)⟩) rfl); clear g7 o7)
    | (refine wpList_put_at rfl 81 (.tmp 2) (.tmp 40) rfl rfl (R1) 0 rfl (.agg #[.int .i64 128275, .int .i64 14, .int .i64 6, .slice (some ⟨L, 0, none⟩) 4 4]) rfl #[.int .i64 128275, .int .i64 14, .int .i64 6, .slice (some ⟨L, 0, none⟩) 4 4] rfl 81 #[.int .i64 0, .int .i64 0, .int .i64 0, .slice none 0 0] #[.int .i64 128275, .int .i64 14, .int .i64 6, .slice (some ⟨L, 0, none⟩) 4 4] (HL6.out.get (.head _)) (by kernel_rfl) (by kernel_rfl) (by kernel_rfl) (by kernel_rfl) ?_; intro w7 g7 o7; have HL7 := Lib.hid (show Lg w w7 [(R1, #[.int .i64 128275, .int .i64 14, .int .i64 6, .slice (some ⟨L, 0, none⟩) 4 4], 81)] [(L, H, fun W => RsNew fdL 3 147 L H W (some ⟨L, 0, none⟩) [⟨0, 16, false⟩, ⟨16, 32, false⟩, ⟨48, 32, false⟩, ⟨80, 32, false⟩])] from HL6.out.put 0 rfl g7 o7 (fun _ h => nomatch h) (List.forall_mem_cons.2 ⟨.inr qL_R1, (fun _ h => nomatch h)⟩) rfl); clear g7 o7))
  exact bodyPost_ret (results_cell_row (p := 2) (ty := 81) (by kernel_rfl) _ _ (R1) 81 _ (0, 0) _ rfl (HL7.out.get (.head _)) Tryz.underlying81 rfl (by kernel_rfl)) rfl ⟨_, rfl, ((HL7.out.at (.head _)).wide (HL7.out.lo (.head _)) (HL7.out.hi (.head _)).2), HL7.out.below⟩
set_option maxRecDepth 100000 in
set_option maxHeartbeats 4000000 in
theorem specDefOf_4 (w : World) : Calls Tryz.prog 33 #[.int .i64 129025] w (DefOut 129025 w) := by
  unfold DefOut
  have hd : defD 129025 = ⟨129025, 8, 2, [⟨0, 32, true⟩, ⟨32, 32, true⟩]⟩ := rfl
  rw [hd]
  dsimp only [List.length_cons, List.length_nil]
  clear hd
  have n0 : ((129025 : Int) == 127250) = false := by decide
  have n1 : ((129025 : Int) == 127488) = false := by decide
  have n2 : ((129025 : Int) == 128267) = false := by decide
  have n3 : ((129025 : Int) == 128275) = false := by decide
  go_enter Tryz.func33, Tryz.ntmps33
  go_wp2_with (first
    | (refine wpList_alloc_h rfl 81 rfl (.agg #[.int .i64 0, .int .i64 0, .int .i64 0, .slice none 0 0]) (by kernel_rfl) #[.int .i64 0, .int .i64 0, .int .i64 0, .slice none 0 0] rfl ?_; intro w1 R1 e1 g1 b1; have HL1 := Lib.hid (show Lg w w1 [(R1, #[.int .i64 0, .int .i64 0, .int .i64 0, .slice none 0 0], 81)] [] from (Lg.first w).box e1 g1 b1); clear g1 b1 e1))
  refine (l08Signed_any 0 32 _).mono ?_
  rintro e w2 ⟨rfl, h⟩
  have HL2 := Lib.hid (show Lg w w2 [(R1, #[.int .i64 0, .int .i64 0, .int .i64 0, .slice none 0 0], 81)] [] from HL1.out.kept h)
  clear h
  go_wp2_with fail
  refine (l08Signed_any 32 32 _).mono ?_
  rintro e w3 ⟨rfl, h⟩
  have HL3 := Lib.hid (show Lg w w3 [(R1, #[.int .i64 0, .int .i64 0, .int .i64 0, .slice none 0 0], 81)] [] from HL2.out.kept h)
  clear h
  obtain ⟨L, eL⟩ : ∃ x, w3.heap.size = x := ⟨_, rfl⟩
  obtain ⟨U, eU⟩ : ∃ U, w3.alloc (.cells #[.int .i64 0, .int .i64 32, .bool true, .int .i64 32, .int .i64 32, .bool true] 147) = U := ⟨_, rfl⟩
  obtain ⟨H, eH⟩ : ∃ x, U.heap.size = x := ⟨_, rfl⟩
  have hbU : Below w3.heap.size w3 U := by rw [← eU]; exact (Below.refl _ _).alloc (Nat.le_refl _) _
  have hnU : RsNew fdL 3 147 L H U (some ⟨L, 0, none⟩) [⟨0, 32, true⟩, ⟨32, 32, true⟩] := .inr ⟨L, 0, _, rfl, Nat.le_refl _, by rw [← eL, ← eH, ← eU]; simp, by rw [← eL, ← eU]; exact heap_alloc_new _ _, by decide, fun i y hy j v hv => by
      have := flat_at fdL 3 fdL_len [⟨0, 32, true⟩, ⟨32, 32, true⟩] i y hy j v hv
      simpa [fdL] using this⟩
  have qL_R1 : R1 < L := Nat.lt_of_lt_of_eq (HL3.out.lt (.head _)) eL
  have HL4 := Lib.hid (show Lg w U [(R1, #[.int .i64 0, .int .i64 0, .int .i64 0, .slice none 0 0], 81)] [(L, H, fun W => RsNew fdL 3 147 L H W (some ⟨L, 0, none⟩) [⟨0, 32, true⟩, ⟨32, 32, true⟩])] from HL3.out.made eL eH hbU hnU.solid)
  clear hbU hnU
  go_wp2_with (first
    | (rw [eU, eL]; refine wpList_put_at rfl 81 (.tmp 2) (.tmp 47) rfl rfl (R1) 0 rfl (.agg #[.int .i64 129025, .int .i64 8, .int .i64 2, .slice (some ⟨L, 0, none⟩) 2 2]) rfl #[.int .i64 129025, .int .i64 8, .int .i64 2, .slice (some ⟨L, 0, none⟩) 2 2] rfl 81 #[.int .i64 0, .int .i64 0, .int .i64 0, .slice none 0 0] #[.int .i64 129025, .int .i64 8, .int .i64 2, .slice (some ⟨L, 0, none⟩) 2 2] (HL4.out.get (.head _)) (by kernel_rfl) (by kernel_rfl) (by kernel_rfl) (by kernel_rfl) ?_; intro w5 g5 o5; have HL5 := Lib.hid (show Lg w w5 [(R1, #[.int .i64 129025, .int .i64 8, .int .i64 2, .slice (some ⟨L, 0, none⟩) 2 2], 81)] [(L, H, fun W => RsNew fdL 3 147 L H W (some ⟨L, 0, none⟩) [⟨0, 32, true⟩, ⟨32, 32, true⟩])] from HL4.out.put 0 rfl g5 o5 (fun _ h => nomatch h) (List.forall_mem_cons.2 ⟨.inr qL_R1, (fun _ h => nomatch h)⟩) rfl); clear g5 o5)
    | (refine wpList_put_at rfl 81 (.tmp 2) (.tmp 47) rfl rfl (R1) 0 rfl (.agg #[.int .i64 129025, .int .i64 8, .int .i64 2, .slice (some ⟨L, 0, none⟩) 2 2]) rfl #[.int .i64 129025, .int .i64 8, .int .i64 2, .slice (some ⟨L, 0, none⟩) 2 2] rfl 81 #[.int .i64 0, .int .i64 0, .int .i64 0, .slice none 0 0] #[.int .i64 129025, .int .i64 8, .int .i64 2, .slice (some ⟨L, 0, none⟩) 2 2] (HL4.out.get (.head _)) (by kernel_rfl) (by kernel_rfl) (by kernel_rfl) (by kernel_rfl) ?_; intro w5 g5 o5; have HL5 := Lib.hid (show Lg w w5 [(R1, #[.int .i64 129025, .int .i64 8, .int .i64 2, .slice (some ⟨L, 0, none⟩) 2 2], 81)] [(L, H, fun W => RsNew fdL 3 147 L H W (some ⟨L, 0, none⟩) [⟨0, 32, true⟩, ⟨32, 32, true⟩])] from HL4.out.put 0 rfl g5 o5 (fun _ h => nomatch h) (List.forall_mem_cons.2 ⟨.inr qL_R1, (fun _ h => nomatch h)⟩) rfl); clear g5 o5))
  exact bodyPost_ret (results_cell_row (p := 2) (ty := 81) (by kernel_rfl) _ _ (R1) 81 _ (0, 0) _ rfl (HL5.out.get (.head _)) Tryz.underlying81 rfl (by kernel_rfl)) rfl ⟨_, rfl, ((HL5.out.at (.head _)).wide (HL5.out.lo (.head _)) (HL5.out.hi (.head _)).2), HL5.out.below⟩
set_option maxRecDepth 100000 in
set_option maxHeartbeats 4000000 in
theorem specDefOf_5 (w : World) : Calls Tryz.prog 33 #[.int .i64 130306] w (DefOut 130306 w) := by
  unfold DefOut
  have hd : defD 130306 = ⟨130306, 8, 2, [⟨0, 8, false⟩, ⟨8, 16, false⟩, ⟨24, 16, false⟩, ⟨40, 3, false⟩]⟩ := rfl
  rw [hd]
  dsimp only [List.length_cons, List.length_nil]
  clear hd
  have n0 : ((130306 : Int) == 127250) = false := by decide
  have n1 : ((130306 : Int) == 127488) = false := by decide
  have n2 : ((130306 : Int) == 128267) = false := by decide
  have n3 : ((130306 : Int) == 128275) = false := by decide
  have n4 : ((130306 : Int) == 129025) = false := by decide
  go_enter Tryz.func33, Tryz.ntmps33
  go_wp2_with (first
    | (refine wpList_alloc_h rfl 81 rfl (.agg #[.int .i64 0, .int .i64 0, .int .i64 0, .slice none 0 0]) (by kernel_rfl) #[.int .i64 0, .int .i64 0, .int .i64 0, .slice none 0 0] rfl ?_; intro w1 R1 e1 g1 b1; have HL1 := Lib.hid (show Lg w w1 [(R1, #[.int .i64 0, .int .i64 0, .int .i64 0, .slice none 0 0], 81)] [] from (Lg.first w).box e1 g1 b1); clear g1 b1 e1))
  refine (l08Plain_any 0 8 _).mono ?_
  rintro e w2 ⟨rfl, h⟩
  have HL2 := Lib.hid (show Lg w w2 [(R1, #[.int .i64 0, .int .i64 0, .int .i64 0, .slice none 0 0], 81)] [] from HL1.out.kept h)
  clear h
  go_wp2_with fail
  refine (l08Plain_any 8 16 _).mono ?_
  rintro e w3 ⟨rfl, h⟩
  have HL3 := Lib.hid (show Lg w w3 [(R1, #[.int .i64 0, .int .i64 0, .int .i64 0, .slice none 0 0], 81)] [] from HL2.out.kept h)
  clear h
  go_wp2_with fail
  refine (l08Plain_any 24 16 _).mono ?_
  rintro e w4 ⟨rfl, h⟩
  have HL4 := Lib.hid (show Lg w w4 [(R1, #[.int .i64 0, .int .i64 0, .int .i64 0, .slice none 0 0], 81)] [] from HL3.out.kept h)
  clear h
  go_wp2_with fail
  refine (l08Plain_any 40 3 _).mono ?_
  rintro e w5 ⟨rfl, h⟩
  have HL5 := Lib.hid (show Lg w w5 [(R1, #[.int .i64 0, .int .i64 0, .int .i64 0, .slice none 0 0], 81)] [] from HL4.out.kept h)
  clear h
  obtain ⟨L, eL⟩ : ∃ x, w5.heap.size = x := ⟨_, rfl⟩
  obtain ⟨U, eU⟩ : ∃ U, w5.alloc (.cells #[.int .i64 0, .int .i64 8, .bool false, .int .i64 8, .int .i64 16, .bool false, .int .i64 24, .int .i64 16, .bool false, .int .i64 40, .int .i64 3, .bool false] 147) = U := ⟨_, rfl⟩
  obtain ⟨H, eH⟩ : ∃ x, U.heap.size = x := ⟨_, rfl⟩
  have hbU : Below w5.heap.size w5 U := by rw [← eU]; exact (Below.refl _ _).alloc (Nat.le_refl _) _
  have hnU : RsNew fdL 3 147 L H U (some ⟨L, 0, none⟩) [⟨0, 8, false⟩, ⟨8, 16, false⟩, ⟨24, 16, false⟩, ⟨40, 3, false⟩] := .inr ⟨L, 0, _, rfl, Nat.le_refl _, by rw [← eL, ← eH, ← eU]; simp, by rw [← eL, ← eU]; exact heap_alloc_new _ _, by decide, fun i y hy j v hv => by
      have := flat_at fdL 3 fdL_len [⟨0, 8, false⟩, ⟨8, 16, false⟩, ⟨24, 16, false⟩, ⟨40, 3, false⟩] i y hy j v hv
      simpa [fdL] using this⟩
  have qL_R1 : R1 < L := Nat.lt_of_lt_of_eq (HL5.out.lt (.head _)) eL
  have HL6 := Lib.hid (show Lg w U [(R1, #[.int .i64 0, .int .i64 0, .int .i64 0, .slice none 0 0], 81)] [(L, H, fun W => RsNew fdL 3 147 L H W (some ⟨L, 0, none⟩) [⟨0, 8, false⟩, ⟨8, 16, false⟩, ⟨24, 16, false⟩, ⟨40, 3, false⟩])] from HL5.out.made eL eH hbU hnU.solid)
  clear hbU hnU
  go_wp2_with (first
    | (rw [eU, eL]; refine wpList_put_at rfl 81 (.tmp 2) (.tmp 56) rfl rfl (R1) 0 rfl (.agg #[.int .i64 130306, .int .i64 8, .int .i64 2, .slice (some ⟨L, 0, none⟩) 4 4]) rfl #[.int .i64 130306, .int .i64 8, .int .i64 2, .slice (some ⟨L, 0, none⟩) 4 4] rfl 81 #[.int .i64 0, .int .i64 0, .int .i64 0, .slice none 0 0] #[.int .i64 130306, .int .i64 8, .int .i64 2, .slice (some ⟨L, 0, none⟩) 4 4] (HL6.out.get (.head _)) (by kernel_rfl) (by kernel_rfl) (by kernel_rfl) (by kernel_rfl) ?_; intro w7 g7 o7; have HL7 := Lib.hid (show Lg w w7 [(R1, #[.int .i64 130306, .int .i64 8, .int .i64 2, .slice (some ⟨L, 0, none⟩) 4 4], 81)] [(L, H, fun W => RsNew fdL 3 147 L H W (some ⟨L, 0, none⟩) [⟨0, 8, false⟩, ⟨8, 16, false⟩, ⟨24, 16, false⟩, ⟨40, 3, false⟩])] from HL6.out.put 0 rfl g7 o7 (fun _ h => nomatch h) (List.forall_mem_cons.2 ⟨.inr qL_R1, (fun _ h => nomatch h)⟩) rfl); clear g7 o7)
    | (refine wpList_put_at rfl 81 (.tmp 2) (.tmp 56) rfl rfl (R1) 0 rfl (.agg #[.int .i64 130306, .int .i64 8, .int .i64 2, .slice (some ⟨L, 0, none⟩) 4 4]) rfl #[.int .i64 130306, .int .i64 8, .int .i64 2, .slice (some ⟨L, 0, none⟩) 4 4] rfl 81 #[.int .i64 0, .int .i64 0, .int .i64 0, .slice none 0 0] #[.int .i64 130306, .int .i64 8, .int .i64 2, .slice (some ⟨L, 0, none⟩) 4 4] (HL6.out.get (.head _)) (by kernel_rfl) (by kernel_rfl) (by kernel_rfl) (by kernel_rfl) ?_; intro w7 g7 o7; have HL7 := Lib.hid (show Lg w w7 [(R1, #[.int .i64 130306, .int .i64 8, .int .i64 2, .slice (some ⟨L, 0, none⟩) 4 4], 81)] [(L, H, fun W => RsNew fdL 3 147 L H W (some ⟨L, 0, none⟩) [⟨0, 8, false⟩, ⟨8, 16, false⟩, ⟨24, 16, false⟩, ⟨40, 3, false⟩])] from HL6.out.put 0 rfl g7 o7 (fun _ h => nomatch h) (List.forall_mem_cons.2 ⟨.inr qL_R1, (fun _ h => nomatch h)⟩) rfl); clear g7 o7))
  exact bodyPost_ret (results_cell_row (p := 2) (ty := 81) (by kernel_rfl) _ _ (R1) 81 _ (0, 0) _ rfl (HL7.out.get (.head _)) Tryz.underlying81 rfl (by kernel_rfl)) rfl ⟨_, rfl, ((HL7.out.at (.head _)).wide (HL7.out.lo (.head _)) (HL7.out.hi (.head _)).2), HL7.out.below⟩
set_option maxRecDepth 100000 in
set_option maxHeartbeats 4000000 in
theorem specDefOf_no (p : Int) (w : World) (h : ixD p = 6) : Calls Tryz.prog 33 #[.int .i64 p] w (DefOut p w) := by
  unfold DefOut
  have hd : defD p = ⟨0, 0, 0, []⟩ := by unfold defD; rw [h]; rfl
  rw [hd]
  have n0 : (p == 127250) = false := by
    have : p ≠ 127250 := fun e => by rw [e] at h; exact absurd h (by decide)
    simpa using this
  have n1 : (p == 127488) = false := by
    have : p ≠ 127488 := fun e => by rw [e] at h; exact absurd h (by decide)
    simpa using this
  have n2 : (p == 128267) = false := by
    have : p ≠ 128267 := fun e => by rw [e] at h; exact absurd h (by decide)
    simpa using this
  have n3 : (p == 128275) = false := by
    have : p ≠ 128275 := fun e => by rw [e] at h; exact absurd h (by decide)
    simpa using this
  have n4 : (p == 129025) = false := by
    have : p ≠ 129025 := fun e => by rw [e] at h; exact absurd h (by decide)
    simpa using this
  have n5 : (p == 130306) = false := by
    have : p ≠ 130306 := fun e => by rw [e] at h; exact absurd h (by decide)
    simpa using this
  clear hd h
  go_enter Tryz.func33, Tryz.ntmps33
  go_wp2
  exact bodyPost_ret (v := .agg #[.int .i64 0, .int .i64 0, .int .i64 0, .slice none 0 0]) (by simp [results, Tryz.results33, go_sem]) rfl ⟨none, rfl, .inl rfl, (Below.refl _ _).alloc (Nat.le_refl _) _⟩
theorem specDefOf_any (p : Int) (w : World) : Calls Tryz.prog 33 #[.int .i64 p] w (DefOut p w) := by
  by_cases h0 : p = 127250
  · subst h0; exact specDefOf_0 w
  by_cases h1 : p = 127488
  · subst h1; exact specDefOf_1 w
  by_cases h2 : p = 128267
  · subst h2; exact specDefOf_2 w
  by_cases h3 : p = 128275
  · subst h3; exact specDefOf_3 w
  by_cases h4 : p = 129025
  · subst h4; exact specDefOf_4 w
  by_cases h5 : p = 130306
  · subst h5; exact specDefOf_5 w
  exact specDefOf_no p w (by unfold ixD; rw [if_neg h0, if_neg h1, if_neg h2, if_neg h3, if_neg h4, if_neg h5])
end Go.Proofs.YtioldepgoodipaaGreat
/- Pickers: whether one is right, what is heard of one more, whom one believes. -/
namespace Go.Proofs.YtioldepgoodipaaGreat
open Go.RowKit
set_option linter.unusedVariables false

/-- It holds of all numbers below n. -/
def allR (f : Nat → Bool) (n : Nat) : Bool := (List.range n).all f
theorem allR_yes {f : Nat → Bool} {n : Nat} (h : ∀ i, i < n → f i = true) : allR f n = true := by
  unfold allR
  rw [List.all_eq_true]
  intro i hi
  exact h i (by simpa using hi)
theorem allR_of {f : Nat → Bool} {n : Nat} (h : allR f n = true) : ∀ i, i < n → f i = true := by
  unfold allR at h
  rw [List.all_eq_true] at h
  intro i hi
  exact h i (by simpa using hi)
theorem allR_no {f : Nat → Bool} {n i : Nat} (hi : i < n) (h : f i = false) : allR f n = false := by
  cases hq : allR f n with
  | false => rfl
  | true => rw [allR_of hq i hi] at h; cases h

/-- One of Ranks: an address, none ahead of it alike. -/
def rankAt (r : List Int) (i : Nat) : Bool := inB 0 251 (numAt r i) && !(decide (numAt r i ∈ r.take i))
def ranksB (r : List Int) : Bool := decide (r.length ≤ 5) && allR (rankAt r) r.length
/-- One of Heard. -/
def heardAt (r : List Int) (h : List Hd) (i : Nat) : Bool :=
  decide ((hdAt h i).s ∈ r) && (inB (-2147483648) 2147483647 (hdAt h i).n && (inB 0 1000000 (hdAt h i).g && (decide (i = 0) || decide ((hdAt h (i - 1)).s < (hdAt h i).s))))
def heardB (r : List Int) (h : List Hd) : Bool := allR (heardAt r h) h.length
/-- The Picker is right. -/
def pkB (r : List Int) (h : List Hd) : Bool := ranksB r && heardB r h
/-- The places that it is heard of. -/
def hdS (h : List Hd) : List Int := h.map (·.s)
/-- Where one is heard of. -/
def putH (h : List Hd) (s n : Int) : List Hd :=
  h.take (cntI (hdS h) s) ++ ⟨s, n, 0⟩ :: h.drop (if (hdS h)[cntI (hdS h) s]? = some s then cntI (hdS h) s + 1 else cntI (hdS h) s)
def mayB (r : List Int) (h : List Hd) (s n : Int) : Bool := pkB r h && (decide (s ∈ r) && inB (-2147483648) 2147483647 n)
def hearH (r : List Int) (h : List Hd) (s n : Int) : List Hd := if mayB r h s n = true then putH h s n else h
def tickH (h : List Hd) : List Hd := h.map fun x => ⟨x.s, x.n, if x.g + 1 < 1000000 then x.g + 1 else 1000000⟩
/-- Whom one believes. -/
def pickL (h : List Hd) (w : Int) : List Int → Int × Int × Int
  | [] => (0, 0, 6)
  | s :: r => match h.find? (fun x => x.s == s && decide (x.g ≤ w)) with
    | some x => (x.s, x.n, 0)
    | none => pickL h w r
def pickV (r : List Int) (h : List Hd) (w : Int) : Int × Int × Int := if (pkB r h && inB 0 1000000 w) = true then pickL h w r else (0, 0, 1)
end Go.Proofs.YtioldepgoodipaaGreat
/- A region in any order, one of whose operations makes memory that a later one writes: what is said of an operation may speak of that one's value. -/
namespace Go.Proofs.YtioldepgoodipaaGreat
open Go.RowKit
set_option linter.unusedVariables false

section
variable {P : Program} {ops : Array Oper} {Q : Exit → Act → World → Prop}
/-- What an operation may take as known; x: the value of the one that makes memory. -/
structure KnownZ (ops : Array Oper) (T : Nat → World → Value → Value → Prop) (x : Value) (a0 : Act) (o : Oper) (a : Act) (w : World) : Prop where
  old : ∀ s, freeOf (some s) ops.toList = true → a.eval (.tmp s) = a0.eval (.tmp s)
  dep : ∀ e ∈ o.after, Region.binds .any e = true → ∀ oj s, ops[e.on]? = some oj → oj.dst = some s → s < a0.tmps.size → T e.on w x (a.eval (.tmp s))
def ObZ (P : Program) (ops : Array Oper) (Q : Exit → Act → World → Prop) (z : Nat) (C : World → Prop) (R : World → World → Prop) (T : Nat → World → Value → Value → Prop) (a0 : Act) (i : Nat) (o : Oper) : Prop :=
  o.guard = none ∧ ∀ a w x, C w → KnownZ ops T x a0 o a w → o.wp P a w (fun a' w' => ∃ v, a' = a.put o.dst v ∧ C w' ∧ R w w' ∧ T i w' (if i = z then v else x) v) Q
def ObAllZ (P : Program) (ops : Array Oper) (Q : Exit → Act → World → Prop) (z : Nat) (C : World → Prop) (R : World → World → Prop) (T : Nat → World → Value → Value → Prop) (a0 : Act) : List Oper → Nat → Prop
  | [], _ => True
  | o :: r, k => ObZ P ops Q z C R T a0 k o ∧ ObAllZ P ops Q z C R T a0 r (k + 1)
theorem ObAllZ.get {z : Nat} {C : World → Prop} {R : World → World → Prop} {T : Nat → World → Value → Value → Prop} {a0 : Act} : ∀ (l : List Oper) (k i : Nat) (o : Oper), ObAllZ P ops Q z C R T a0 l k → l[i]? = some o → ObZ P ops Q z C R T a0 (k + i) o := by
  intro l
  induction l with
  | nil => intro k i o _ h; simp at h
  | cons o' r ih =>
    intro k i o hall h
    rcases i with _ | i
    · simp at h; subst h; exact hall.1
    · rw [show k + (i + 1) = k + 1 + i by omega]
      exact ih (k + 1) i o hall.2 (by simpa using h)
theorem KnownZ.get {T : Nat → World → Value → Value → Prop} {x : Value} {a0 : Act} {o : Oper} {a : Act} {w : World} (hK : KnownZ ops T x a0 o a w) (k s : Nat) {oj : Oper} (he : o.after.any (fun e => (e.on == k) && Region.binds .any e) = true) (hoj : ops[k]? = some oj) (hd : oj.dst = some s)
    (hs : Nat.ble (s + 1) a0.tmps.size = true) : T k w x (a.eval (.tmp s)) := by
  obtain ⟨e, he1, he2⟩ := Array.any_eq_true'.1 he
  simp only [Bool.and_eq_true] at he2
  have hk : e.on = k := by simpa using he2.1
  subst hk
  exact hK.dep e he1 he2.2 oj s hoj hd (Nat.le_of_ble_eq_true hs)
theorem wp_region_anyordZ {id : Nat} {a0 : Act} {w : World} (z : Nat) (C : World → Prop) (R : World → World → Prop) (T : Nat → World → Value → Value → Prop) (hm : P.follows .mixedOrders = true)
    (hap : apartAll ops.toList = true) (hbk : backB ops.toList 0 = true)
    (hst : ∀ j w w' x v, R w w' → T j w x v → T j w' x v) (hind : ∀ j o, ops[j]? = some o → j ≠ z → (o.after.any fun e => Region.binds .any e && (e.on == z)) = false → ∀ w x x' v, T j w x v → T j w x' v) (hC : C { w with drawn := w.drawn + 1 })
    (hob : ObAllZ P ops Q z C R T a0 ops.toList 0)
    (hQ : ∀ vs w', C w' → (∀ i, i < ops.size → T i w' (vs z) (vs i)) → Q .normal (fillL vs (fun _ => true) ops.toList 0 a0) w') : (Code.region id ops true).wp P Q a0 w := by
  refine wp_region_any hm (wpAny_of_inv (Inv := fun listed a w => listed.size = ops.size ∧ C w ∧ ∃ vs, a = fillL vs (fun j => listed.getD j false) ops.toList 0 a0 ∧ (∀ i, listed.getD i false = true → T i w (vs z) (vs i)) ∧ ∀ j o, listed.getD j false = true → ops[j]? = some o → ∀ e ∈ o.after, Region.binds .any e = true → listed.getD e.on false = true) ?_ ?_ _ _ _ _ ⟨by simp, hC, fun _ => undef, ?_, ?_, ?_⟩ ?_)
  · intro listed a w i ⟨hsz, hCw, vs, ha, hT, hcl⟩ hi
    obtain ⟨hun, o, ho, hdeps⟩ := mem_ready.1 hi
    have hil : i < ops.size := (Array.getElem?_eq_some_iff.1 ho).1
    have hol : ops.toList[i]? = some o := by rw [Array.getElem?_toList]; exact ho
    have hunf : listed.getD i false = false := by
      have h1 : i < listed.size := by omega
      simp [h1] at hun ⊢
      exact hun
    have hObi := hob.get ops.toList 0 i o hol
    rw [Nat.zero_add] at hObi
    obtain ⟨hg, hwp⟩ := hObi
    have hK : KnownZ ops T (vs z) a0 o a w := by
      refine ⟨fun s hs => by rw [ha]; exact fillL_other vs _ s _ 0 a0 hs, fun e he hbe oj s hoj hd hs => ?_⟩
      have hl := hdeps e he hbe
      have := fillL_at vs (fun j => listed.getD j false) s ops.toList 0 e.on oj a0 hap (by rw [Array.getElem?_toList]; exact hoj) hd (by rw [Nat.zero_add]; exact hl) hs
      rw [Nat.zero_add] at this
      rw [ha, this]
      exact hT e.on hl
    unfold wpOp
    rw [ho]
    have hw : Region.wanted o (yielded ops a.tmps) = true := by simp [Region.wanted, hg]
    simp only [hw, if_true]
    refine .inl (Oper.wp_mono (fun a' w' ⟨v, ha', hC', hR, hTv⟩ => ?_) (hwp a w (vs z) hCw hK))
    refine ⟨by simpa using hsz, hC', upd vs i v, ?_, fun j hj => ?_, fun j oj hj hoj e he hbe => ?_⟩
    · have hs := fillL_step vs (fun j => listed.getD j false) v ops.toList 0 i o a0 hap hol (by rw [Nat.zero_add]; exact hunf)
      rw [Nat.zero_add] at hs
      rw [ha', ha, ← hs]
      refine fillL_congr _ 0 _ fun j _ => ⟨?_, fun _ => rfl⟩
      unfold upd
      by_cases hj : j = i
      · subst hj
        have h1 : j < listed.size := by omega
        simp [h1]
      · rw [if_neg hj]
        simp [Array.getD_eq_getD_getElem?, Ne.symm hj]
    · by_cases hji : j = i
      · subst hji
        have e1 : upd vs j v z = if j = z then v else vs z := by
          unfold upd
          by_cases hz : z = j
          · rw [if_pos hz, if_pos hz.symm]
          · rw [if_neg hz, if_neg (Ne.symm hz)]
        rw [e1]
        simpa [upd] using hTv
      · have h2 : listed.getD j false = true := by
          simpa [Array.getD_eq_getD_getElem?, Array.getElem?_setIfInBounds, Ne.symm hji] using hj
        have h3 := hst j w w' _ _ hR (hT j h2)
        have e2 : upd vs i v j = vs j := by unfold upd; rw [if_neg hji]
        rw [e2]
        by_cases hz : z = i
        · subst hz
          have hjs : j < ops.size := by
            rcases Nat.lt_or_ge j ops.size with h | h
            · exact h
            · rw [Array.getD_eq_getD_getElem?, Array.getElem?_eq_none (by omega)] at h2
              cases h2
          refine hind j ops[j] (Array.getElem?_eq_getElem hjs) hji ?_ w' _ _ _ h3
          rw [Bool.eq_false_iff]
          intro hany
          obtain ⟨e, he1, he2⟩ := Array.any_eq_true'.1 hany
          simp only [Bool.and_eq_true, beq_iff_eq] at he2
          have := hcl j ops[j] h2 (Array.getElem?_eq_getElem hjs) e he1 he2.1
          rw [he2.2, hunf] at this
          cases this
        · have e3 : upd vs i v z = vs z := by unfold upd; rw [if_neg hz]
          rw [e3]
          exact h3
    · have hset : ∀ k, listed.getD k false = true → (listed.setIfInBounds i true).getD k false = true := by
        intro k hk
        by_cases hki : k = i
        · subst hki
          have h1 : k < listed.size := by omega
          simp [Array.getD_eq_getD_getElem?, h1]
        · simpa [Array.getD_eq_getD_getElem?, Array.getElem?_setIfInBounds, Ne.symm hki] using hk
      by_cases hji : j = i
      · subst hji
        rw [ho] at hoj
        obtain rfl := Option.some.inj hoj
        exact hset _ (hdeps e he hbe)
      · have h2 : listed.getD j false = true := by
          simpa [Array.getD_eq_getD_getElem?, Array.getElem?_setIfInBounds, Ne.symm hji] using hj
        exact hset _ (hcl j oj h2 hoj e he hbe)
  · intro listed a w ⟨hsz, hCw, vs, ha, hT, _⟩ h0
    have hall : ∀ n j, j < n → j < ops.size → listed.getD j false = true := by
      intro n
      induction n with
      | zero => intro j h; omega
      | succ n ih =>
        intro j hj hjs
        rcases Nat.lt_or_ge j n with h1 | h1
        · exact ih j h1 hjs
        obtain rfl : j = n := by omega
        cases hl : listed.getD j false with
        | true => rfl
        | false =>
          exfalso
          have hmem : j ∈ Region.ready .any ops listed := by
            refine mem_ready.2 ⟨?_, ops[j], Array.getElem?_eq_getElem hjs, fun e he hbe => ?_⟩
            · have h1 : j < listed.size := by omega
              simp [h1] at hl ⊢
              exact hl
            · have := backB_get ops.toList 0 j ops[j] hbk (by rw [Array.getElem?_toList]; exact Array.getElem?_eq_getElem hjs) e he hbe
              exact ih e.on (by omega) (by omega)
          rw [h0] at hmem
          cases hmem
    rw [ha, fillL_all vs _ ops.toList 0 a0 (fun j _ h => hall ops.size j (by simpa using h) (by simpa using h))]
    exact hQ vs w hCw fun i hi => hT i (hall ops.size i hi hi)
  · symm
    have : ∀ (l : List Oper) k, fillL (fun _ => undef) (fun j => (Array.replicate ops.size false).getD j false) l k a0 = a0 := by
      intro l
      induction l with
      | nil => intro k; rfl
      | cons o r ih =>
        intro k
        show fillL _ _ r (k + 1) (if (Array.replicate ops.size false).getD k false = true then _ else a0) = a0
        rw [if_neg (by simp [Array.getD_eq_getD_getElem?, Array.getElem?_replicate]; split <;> simp)]
        exact ih (k + 1)
    exact this _ _
  · intro i hi
    exfalso
    simp [Array.getD_eq_getD_getElem?, Array.getElem?_replicate] at hi
    split at hi <;> simp at hi
  · intro i o hi
    exfalso
    simp [Array.getD_eq_getD_getElem?, Array.getElem?_replicate] at hi
    split at hi <;> simp at hi
  · have : (Array.replicate ops.size false).toList.count false = ops.size := by simp
    omega
end
end Go.Proofs.YtioldepgoodipaaGreat
/- What was Got is right: the program's gotRight. Nothing that was there is written. -/
namespace Go.Proofs.YtioldepgoodipaaGreat
open Go.RowKit
set_option linter.unusedVariables false

/-- Of a group in the table, of somebody, all its data. -/
def gtB (g : Gt) : Bool := decide (ixD g.p < 6) && (inB 0 255 g.s && ((g.dt.size : Int) == (defD g.p).s))
theorem defD_zero (p : Int) : ((defD p).s == 0) = !(decide (ixD p < 6)) := by
  have h := ixD_le p
  unfold defD
  generalize ixD p = i at *
  rcases i with _ | _ | _ | _ | _ | _ | _ | i
  all_goals first | decide | omega
/-- A row of the table, its Fields standing from B on. -/
def ansO (PP SS RR : Int) (NN : Nat) (p : Int) (B : Nat) : Obj := .cells #[.int .i64 PP, .int .i64 SS, .int .i64 RR, .slice (aD B p) NN NN] 81 (0, 0)
def zeroO : Obj := .cells #[.int .i64 0, .int .i64 0, .int .i64 0, .slice none 0 0] 81 (0, 0)
/-- What the region leaves: a row of zeros may become the answer. -/
def RG (A : Nat → Obj) (W W' : World) : Prop := W.heap.size ≤ W'.heap.size ∧ ∀ k, k < W.heap.size → W'.heap[k]? = W.heap[k]? ∨ ((W.heap[k]? = some zeroO ∨ ∃ B, W.heap[k]? = some (A B)) ∧ ∃ B, W'.heap[k]? = some (A B))
section
variable {PP SS RR p : Int} {NN : Nat} {W W' : World}
theorem RG.refl (A : Nat → Obj) (W : World) : RG A W W := ⟨Nat.le_refl _, fun _ _ => .inl rfl⟩
theorem RG.below (A : Nat → Obj) (h : Below W.heap.size W W') : RG A W W' := ⟨h.size, fun k hk => .inl (h.block k hk)⟩
theorem RG.tab (h : RG (ansO PP SS RR NN p) W W') {B G : Nat} (k : TabAt B G W) : TabAt B G W' := by
  refine ⟨?_, fun i x hx => ?_⟩
  · rcases h.2 G (Array.getElem?_eq_some_iff.1 k.rows).1 with q | ⟨q | ⟨B', q⟩, _⟩
    · exact q.trans k.rows
    · have := k.rows.symm.trans q
      unfold zeroO at this
      simp [dxs, dxL] at this
    · have := k.rows.symm.trans q
      unfold ansO at this
      simp [dxs, dxL] at this
  · have hk := k.flds i x hx
    rcases h.2 _ (Array.getElem?_eq_some_iff.1 hk).1 with q | ⟨q | ⟨B', q⟩, _⟩
    · exact q.trans hk
    · have := hk.symm.trans q
      unfold zeroO at this
      simp at this
    · have := hk.symm.trans q
      unfold ansO at this
      simp at this
end
/-- What each operation's value is; x: the new row's address. -/
def TGR (R1 lo : Nat) (PP SS RR : Int) (NN : Nat) (p : Int) (DD : Bool) : Nat → World → Value → Value → Prop
  | 0, W, _, v => ∃ G B, v = .slice (some ⟨G, 0, none⟩) 6 6 ∧ TabAt B G W
  | 1, _, _, v => v = .pointer (some ⟨R1, 1, none⟩)
  | 2, _, _, v => v = .int .i64 p
  | 3, _, _, v => ∃ B, v = .tuple #[.agg #[.int .i64 PP, .int .i64 SS, .int .i64 RR, .slice (aD B p) NN NN], .bool DD]
  | 4, _, _, v => ∃ B, v = .tuple #[.agg #[.int .i64 PP, .int .i64 SS, .int .i64 RR, .slice (aD B p) NN NN], .bool DD]
  | 5, _, _, v => ∃ B, v = .agg #[.int .i64 PP, .int .i64 SS, .int .i64 RR, .slice (aD B p) NN NN]
  | 6, _, _, v => v = .bool DD
  | 7, W, x, v => v = x ∧ ∃ k, x = .pointer (some ⟨k, 0, none⟩) ∧ lo ≤ k ∧ (W.heap[k]? = some zeroO ∨ ∃ B, W.heap[k]? = some (ansO PP SS RR NN p B))
  | 8, W, x, _ => ∃ k, x = .pointer (some ⟨k, 0, none⟩) ∧ lo ≤ k ∧ ∃ B, W.heap[k]? = some (ansO PP SS RR NN p B)
  | 9, _, _, v => v = .bool DD
  | _ + 10, _, _, _ => True
theorem TGR.kept {R1 lo : Nat} {PP SS RR : Int} {NN : Nat} {p : Int} {DD : Bool} : ∀ j w w' x v, RG (ansO PP SS RR NN p) w w' → TGR R1 lo PP SS RR NN p DD j w x v → TGR R1 lo PP SS RR NN p DD j w' x v
  | 0, _, _, _, _, hR, ⟨G, B, h1, h2⟩ => ⟨G, B, h1, hR.tab h2⟩
  | 1, _, _, _, _, _, h | 2, _, _, _, _, _, h | 3, _, _, _, _, _, h | 4, _, _, _, _, _, h | 5, _, _, _, _, _, h | 6, _, _, _, _, _, h | 9, _, _, _, _, _, h => h
  | 7, _, _, _, _, hR, ⟨h1, k, h2, h3, h4⟩ => by
    refine ⟨h1, k, h2, h3, ?_⟩
    have hk : k < _ := h4.elim (fun h => (Array.getElem?_eq_some_iff.1 h).1) (fun ⟨B, h⟩ => (Array.getElem?_eq_some_iff.1 h).1)
    rcases hR.2 k hk with q | ⟨_, q⟩
    · rw [q]; exact h4
    · exact .inr q
  | 8, _, _, _, _, hR, ⟨k, h2, h3, B, h4⟩ => by
    refine ⟨k, h2, h3, ?_⟩
    rcases hR.2 k (Array.getElem?_eq_some_iff.1 h4).1 with q | ⟨_, q⟩
    · exact ⟨B, q.trans h4⟩
    · exact q
  | _ + 10, _, _, _, _, _, h => h
set_option maxRecDepth 100000 in
set_option maxHeartbeats 16000000 in
theorem gotRight_any (x : Gt) (w : World) (hlen : x.dt.size ≤ maxLen) :
    Calls Tryz.prog 132 #[.agg (gtL x).toArray] w fun e w' => e = .returned (.bool (gtB x)) ∧ Below w.heap.size w w' := by
  obtain ⟨s, p, dt⟩ := x
  have HB := Lib.hid (show gtB ⟨s, p, dt⟩ = (decide (ixD p < 6) && (inB 0 255 s && ((dt.size : Int) == (defD p).s))) from rfl)
  have HRow := fun B G W h => Lib.hid (rowOf_d B G p W h)
  unfold gtL
  dsimp only at *
  unfold maxLen at hlen
  generalize gtB ⟨s, p, dt⟩ = RES at *
  generalize hDD : decide (ixD p < 6) = DD at *
  generalize hP : (defD p).p = PP at *
  generalize hS : (defD p).s = SS at *
  generalize hR : (defD p).r = RR at *
  generalize hF : (defD p).fs.length = NN at *
  clear hDD hP hS hR hF
  go_enter Tryz.func132, Tryz.ntmps132
  go_wp2_with (first
    | (refine wpList_box_h rfl 144 (.tmp 0) rfl #[.int .i64 s, .int .i64 p, .string dt] rfl ?_; intro w1 R1 e1 g1 b1; have HL1 := Lib.hid (show Lg w w1 [(R1, #[.int .i64 s, .int .i64 p, .string dt], 144)] [] from (Lg.first w).box e1 g1 b1); clear g1 b1 e1))
  have HRB := Lib.hid (HL1.out.get (.head _))
  have hR1 : R1 < w1.heap.size := HL1.out.lt (.head _)
  refine wp_region_anyordZ 7 (fun W => Below w1.heap.size w1 W) (RG (ansO PP SS RR NN p)) (TGR R1 w1.heap.size PP SS RR NN p DD) (by kernel_rfl) (by kernel_rfl) (by kernel_rfl) TGR.kept ?_ (Below.refl _ _).drew ?_ ?_
  · intro j o ho hz hd ww x x' v hT
    rcases j with _ | _ | _ | _ | _ | _ | _ | _ | _ | _ | j
    · exact hT
    · exact hT
    · exact hT
    · exact hT
    · exact hT
    · exact hT
    · exact hT
    · exact absurd rfl hz
    · cases ho
      exact absurd (hd.symm.trans (show _ = true from by kernel_rfl)) (by simp)
    · exact hT
    · trivial
  · refine ⟨⟨rfl, fun a1 W x hC hK => ?_⟩, ⟨rfl, fun a1 W x hC hK => ?_⟩, ⟨rfl, fun a1 W x hC hK => ?_⟩, ⟨rfl, fun a1 W x hC hK => ?_⟩, ⟨rfl, fun a1 W x hC hK => ?_⟩, ⟨rfl, fun a1 W x hC hK => ?_⟩, ⟨rfl, fun a1 W x hC hK => ?_⟩, ⟨rfl, fun a1 W x hC hK => ?_⟩, ⟨rfl, fun a1 W x hC hK => ?_⟩, ⟨rfl, fun a1 W x hC hK => ?_⟩, trivial⟩
    · refine ob_call rfl Tryz.func103 (by kernel_rfl) (by kernel_rfl) (vals := #[]) (by simp) ?_
      refine (defs_any W).mono ?_
      rintro e w' ⟨G, rfl, hT, hb⟩
      exact ⟨_, rfl, _, rfl, hC.trans (hb.mono hC.size), RG.below _ hb, G, _, rfl, hT⟩
    · have e1 : a1.eval (.tmp 1) = .pointer (some ⟨R1, 0, none⟩) := (hK.old 1 (by kernel_rfl)).trans rfl
      have c1 := (hC.cell (p := ⟨R1, 1, none⟩) hR1).trans (cell_of_row w1 R1 1 _ _ (0, 0) HRB.out)
      have c0 := (hC.cell (p := ⟨R1, 0, none⟩) hR1).trans (cell_of_row w1 R1 0 _ _ (0, 0) HRB.out)
      simp only [Act.eval, Array.getD_eq_getD_getElem?] at e1
      exact ob_value (v := .pointer (some ⟨R1, 1, none⟩)) (w' := W) (by simp [execOp, go_sem, e1]) ⟨_, rfl, hC, RG.refl _ _, rfl⟩
    · have e1 : a1.eval (.tmp 7) = .pointer (some ⟨R1, 1, none⟩) := hK.get 1 7 (by kernel_rfl) rfl rfl rfl
      have c1 := (hC.cell (p := ⟨R1, 1, none⟩) hR1).trans (cell_of_row w1 R1 1 _ _ (0, 0) HRB.out)
      simp only [Act.eval, Array.getD_eq_getD_getElem?] at e1
      exact ob_value (v := .int .i64 p) (w' := W) (by simp [execOp, go_sem, e1, c1]) ⟨_, rfl, hC, RG.refl _ _, rfl⟩
    · obtain ⟨G, B, e1, hT⟩ : TGR R1 w1.heap.size PP SS RR NN p DD 0 W x (a1.eval (.tmp 6)) := hK.get 0 6 (by kernel_rfl) rfl rfl rfl
      have e2 : a1.eval (.tmp 8) = .int .i64 p := hK.get 2 8 (by kernel_rfl) rfl rfl rfl
      simp only [Act.eval, Array.getD_eq_getD_getElem?] at e1 e2
      refine ob_call rfl Tryz.func102 (by kernel_rfl) (by kernel_rfl) (vals := #[.slice (some ⟨G, 0, none⟩) 6 6, .int .i64 p, .func (.func 104) #[] #[]]) (by simp [e1, e2, Act.eval]) ?_
      refine (HRow B G W hT).out.mono ?_
      rintro e w' ⟨rfl, hb⟩
      exact ⟨_, rfl, _, rfl, hC.trans (hb.mono hC.size), RG.below _ hb, B, rfl⟩
    · exact ob_move rfl ⟨_, rfl, hC, RG.refl _ _, hK.get 3 9 (by kernel_rfl) rfl rfl rfl⟩
    · obtain ⟨B, e1⟩ : TGR R1 w1.heap.size PP SS RR NN p DD 4 W x (a1.eval (.tmp 5)) := hK.get 4 5 (by kernel_rfl) rfl rfl rfl
      simp only [Act.eval, Array.getD_eq_getD_getElem?] at e1
      exact ob_value (v := .agg #[.int .i64 PP, .int .i64 SS, .int .i64 RR, .slice (aD B p) NN NN]) (w' := W) (by simp [execOp, go_sem, e1]) ⟨_, rfl, hC, RG.refl _ _, B, rfl⟩
    · obtain ⟨B, e1⟩ : TGR R1 w1.heap.size PP SS RR NN p DD 4 W x (a1.eval (.tmp 5)) := hK.get 4 5 (by kernel_rfl) rfl rfl rfl
      simp only [Act.eval, Array.getD_eq_getD_getElem?] at e1
      exact ob_value (v := .bool DD) (w' := W) (by simp [execOp, go_sem, e1]) ⟨_, rfl, hC, RG.refl _ _, rfl⟩
    · exact ob_value (v := .pointer (some ⟨W.heap.size, 0, none⟩)) (w' := W.alloc zeroO) (by unfold zeroO; simp [execOp, go_sem]) ⟨_, rfl, hC.alloc hC.size _, RG.below _ ((Below.refl _ _).alloc (Nat.le_refl _) _), rfl, W.heap.size, rfl, hC.size, .inl (heap_alloc_new W _)⟩
    · obtain ⟨e1, k, rfl, hlo, hk⟩ : TGR R1 w1.heap.size PP SS RR NN p DD 7 W x (a1.eval (.tmp 3)) := hK.get 7 3 (by kernel_rfl) rfl rfl rfl
      obtain ⟨B, e2⟩ : TGR R1 w1.heap.size PP SS RR NN p DD 5 W _ (a1.eval (.tmp 10)) := hK.get 5 10 (by kernel_rfl) rfl rfl rfl
      have hfin : ∀ w', w'.heap[k]? = some (.cells #[.int .i64 PP, .int .i64 SS, .int .i64 RR, .slice (aD B p) NN NN] 81 (0, 0)) → Out k (k + 1) W w' → ∃ v, a1.put none undef = a1.put none v ∧ Below w1.heap.size w1 w' ∧ RG (ansO PP SS RR NN p) W w' ∧ TGR R1 w1.heap.size PP SS RR NN p DD 8 w' (if (8 : Nat) = 7 then v else .pointer (some ⟨k, 0, none⟩)) v := fun w' hg ho => by
        refine ⟨undef, rfl, ho.below hC hlo hC.size, ⟨ho.size, fun j hj => ?_⟩, k, rfl, hlo, B, hg⟩
        by_cases hjk : j = k
        · subst hjk
          exact .inr ⟨hk, B, hg⟩
        · exact .inl (ho.block j hj (by omega))
      rcases hk with hk | ⟨B', hk⟩
      · exact ob_put_row 81 (.tmp 3) (.tmp 10) rfl k e1 _ e2 _ rfl 81 _ _ hk (by kernel_rfl) (by kernel_rfl) (by kernel_rfl) (by kernel_rfl) hfin
      · exact ob_put_row 81 (.tmp 3) (.tmp 10) rfl k e1 _ e2 _ rfl 81 _ _ hk (by kernel_rfl) (by kernel_rfl) (by kernel_rfl) (by kernel_rfl) hfin
    · exact ob_value (BigFrame.run_assign _ rfl W) ⟨_, rfl, hC, RG.refl _ _, hK.get 6 11 (by kernel_rfl) rfl rfl rfl⟩
  · intro vs W hC hT
    obtain ⟨e7, k, e7', hlo, -⟩ : TGR R1 w1.heap.size PP SS RR NN p DD 7 W (vs 7) (vs 7) := hT 7 (by decide)
    obtain ⟨k', e8, -, B, hk⟩ : TGR R1 w1.heap.size PP SS RR NN p DD 8 W (vs 7) (vs 8) := hT 8 (by decide)
    have e9 : vs 9 = .bool DD := hT 9 (by decide)
    obtain rfl : k = k' := by
      have := e7'.symm.trans e8
      simpa using this
    simp only [fillL, if_true, Act.put, List.setIfInBounds_toArray, List.set_cons_zero, List.set_cons_succ, e7', e9]
    unfold ansO at hk
    have HC := Lib.hid hC
    have HK := Lib.hid hk
    have hlt : R1 < W.heap.size := Nat.lt_of_lt_of_le hR1 hC.size
    have HR2 := Lib.hid ((hC.block R1 hR1).trans HRB.out)
    clear hC hT e7 e7' e8 e9 hk
    have l0 := (cell_of_row W R1 0 _ _ (0, 0) HR2.out)
    rcases DD with _ | _
    · have hres : RES = false := by rw [HB.out]; rfl
      go_wp2_with fail
      go_ret
      exact ⟨by rw [hres]; rfl, HL1.out.below.trans (HC.out.mono HL1.out.below.size)⟩
    go_wp2_with (refine wpList_load_one (by kernel_rfl) 2 (.tmp 14) rfl (R1) 0 rfl 144 #[.int .i64 s, .int .i64 p, .string dt] (0, 0) HR2.out (.int .i64 s) rfl _ Tryz.underlying2 rfl (by kernel_rfl) ?_)
    refine (from0_any s 255 _).mono ?_
    rintro e w' ⟨rfl, rfl⟩
    rcases hi : inB 0 255 s with _ | _
    · have hres : RES = false := by rw [HB.out, hi]; rfl
      go_wp2_with fail
      go_ret
      exact ⟨by rw [hres]; rfl, HL1.out.below.trans (HC.out.mono HL1.out.below.size)⟩
    have hres : RES = ((dt.size : Int) == SS) := by rw [HB.out, hi]; rfl
    clear l0 hi
    go_wp2_with (first
      | (refine wpList_load_one (by kernel_rfl) 9 (.tmp 19) rfl (R1) 2 rfl 144 #[.int .i64 s, .int .i64 p, .string dt] (0, 0) HR2.out (.string dt) rfl _ Tryz.underlying9 rfl (by kernel_rfl) ?_)
      | (refine wpList_load_one (by kernel_rfl) 2 (.tmp 22) rfl (k) 1 rfl 81 #[.int .i64 PP, .int .i64 SS, .int .i64 RR, .slice (aD B p) NN NN] (0, 0) HK.out (.int .i64 SS) rfl _ Tryz.underlying2 rfl (by kernel_rfl) ?_))
    go_ret
    exact ⟨by rw [hres]; rfl, HL1.out.below.trans (HC.out.mono HL1.out.below.size)⟩
end Go.Proofs.YtioldepgoodipaaGreat
