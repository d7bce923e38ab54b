/- A number's bytes, the lowest first, written into a row and read out of one: the program's. Nothing else is written. -/
import Derived.Test.YtioldepgoodipaaGreatOwn
import Derived.BigQuiet
import Derived.Deep.DeepCutAuto
namespace Go.Proofs.YtioldepgoodipaaGreat
open Go.RowKit
set_option linter.unusedVariables false

/-- Four cells written. -/
def set4 (w : World) (g : Nat) (k : Int) : World := (((w.setCell ⟨g, 0, none⟩ (.int .u8 (k % 256))).setCell ⟨g, 1, none⟩ (.int .u8 (k / 256 % 256))).setCell ⟨g, 2, none⟩ (.int .u8 (k / 65536 % 256))).setCell ⟨g, 3, none⟩ (.int .u8 (k / 16777216))
theorem set4_heap {w : World} {g : Nat} {k : Int} {a0 a1 a2 a3 : Value} {r : List Value} {T : TypeId} (h : w.heap[g]? = some (.cells (a0 :: a1 :: a2 :: a3 :: r).toArray T (0, 0))) :
    (set4 w g k).heap[g]? = some (.cells (.int .u8 (k % 256) :: .int .u8 (k / 256 % 256) :: .int .u8 (k / 65536 % 256) :: .int .u8 (k / 16777216) :: r).toArray T (0, 0)) := by
  have h0 := heap_setCell_same w g 0 _ _ (.int .u8 (k % 256)) h
  have h1 := heap_setCell_same _ g 1 _ _ (.int .u8 (k / 256 % 256)) h0
  have h2 := heap_setCell_same _ g 2 _ _ (.int .u8 (k / 65536 % 256)) h1
  have h3 := heap_setCell_same _ g 3 _ _ (.int .u8 (k / 16777216)) h2
  unfold set4
  rw [h3]
  simp
theorem set4_below {B : Nat} {w0 w : World} {g : Nat} {k : Int} (h : Below B w0 w) (hg : B ≤ g) : Below B w0 (set4 w g k) :=
  (((h.setCell (p := ⟨g, 0, none⟩) hg _).setCell (p := ⟨g, 1, none⟩) hg _).setCell (p := ⟨g, 2, none⟩) hg _).setCell (p := ⟨g, 3, none⟩) hg _

set_option maxRecDepth 100000 in
set_option maxHeartbeats 1000000 in
theorem putLowFirst_any (g cap : Nat) (k : Int) (a0 a1 a2 a3 : Value) (r : List Value) (T : TypeId) (w : World) (h : w.heap[g]? = some (.cells (a0 :: a1 :: a2 :: a3 :: r).toArray T (0, 0))) (h0 : 0 ≤ k) (h1 : k ≤ 4294967295) :
    Calls Tryz.prog 255 #[.slice (some ⟨g, 0, none⟩) 4 cap, .int .i64 k] w fun e w' => e = .returned (.tuple #[]) ∧ w' = set4 w g k := by
  have c0 := cell_of_row w g 0 _ _ (0, 0) h
  have c1 := cell_of_row w g 1 _ _ (0, 0) h
  have c2 := cell_of_row w g 2 _ _ (0, 0) h
  have c3 := cell_of_row w g 3 _ _ (0, 0) h
  have f0 := frozen_of_row w g 0 _ _ h
  have f1 := frozen_of_row w g 1 _ _ h
  have f2 := frozen_of_row w g 2 _ _ h
  have f3 := frozen_of_row w g 3 _ _ h
  simp at c0 c1 c2 c3
  have HS := Lib.hid (show set4 w g k = (((w.setCell ⟨g, 0, none⟩ (.int .u8 (k % 256))).setCell ⟨g, 1, none⟩ (.int .u8 (k / 256 % 256))).setCell ⟨g, 2, none⟩ (.int .u8 (k / 65536 % 256))).setCell ⟨g, 3, none⟩ (.int .u8 (k / 16777216)) from rfl)
  clear h
  go_enter Tryz.func255, Tryz.ntmps255
  go_wp2
  refine wp_loop_rounds 5 ?_
  iterate 5 (rw [rounds_succ]; go_wp2)
  go_end0
  exact ⟨rfl, by rw [HS.out]⟩

set_option maxHeartbeats 1000000 in
theorem parts_any (g o cap : Nat) (w : World) (h : 8 ≤ cap) :
    Calls Tryz.prog 253 #[.slice (some ⟨g, o, none⟩) 8 cap] w fun e w' => e = .returned (.tuple #[.slice (some ⟨g, o, none⟩) 4 4, .slice (some ⟨g, o + 4, none⟩) 4 4]) ∧ ∃ n, w' = w.drewN n := by
  go_enter Tryz.func253, Tryz.ntmps253
  go_wp2
  go_quiet (fail)
  go_wp2
  go_ret2
  exact ⟨rfl, _, rfl⟩
theorem or_at (e : Nat) {p x c : Int} (hp : p = ((2 ^ e : Nat) : Int)) (h0 : 0 ≤ x) (h1 : x < p) (h2 : 0 ≤ c) (h3 : x + c * p ≤ 18446744073709551615) : bits BinOp.or IntKind.u64 x (c * p) = x + c * p := by
  have hp0 : 0 < 2 ^ e := Nat.two_pow_pos e
  obtain ⟨d, rfl⟩ := Int.eq_ofNat_of_zero_le h2
  have e1 : ((d : Nat) : Int) * p = ((d * 2 ^ e : Nat) : Int) := by rw [hp]; simp
  rw [e1] at h3 ⊢
  have hx : x.toNat < 2 ^ e := by omega
  have hj := nat_join e (d * 2 ^ e) x.toNat (Nat.mul_mod_left _ _) hx
  rw [u64_or x _ (by omega) (by omega) (by omega) (by omega), Nat.or_comm, Int.toNat_natCast, hj]
  omega
theorem or_zero {c : Int} (h0 : 0 ≤ c) (h1 : c ≤ 255) : bits BinOp.or IntKind.u64 0 c = c := by
  have := or_at 0 (p := 1) (x := 0) (c := c) rfl (by omega) (by omega) h0 (by omega)
  simpa using this
set_option maxRecDepth 100000 in
set_option maxHeartbeats 1000000 in
theorem getLow4_any (g o cap : Nat) (b0 b1 b2 b3 : Int) (w : World) (h0 : w.cell? ⟨g, o, none⟩ = some (.int .u8 b0)) (h1 : w.cell? ⟨g, o + 1, none⟩ = some (.int .u8 b1)) (h2 : w.cell? ⟨g, o + 2, none⟩ = some (.int .u8 b2)) (h3 : w.cell? ⟨g, o + 3, none⟩ = some (.int .u8 b3))
    (l0 : 0 ≤ b0 ∧ b0 ≤ 255) (l1 : 0 ≤ b1 ∧ b1 ≤ 255) (l2 : 0 ≤ b2 ∧ b2 ≤ 255) (l3 : 0 ≤ b3 ∧ b3 ≤ 255) :
    Calls Tryz.prog 254 #[.slice (some ⟨g, o, none⟩) 4 cap] w fun e w' => e = .returned (.int .u64 (b0 + b1 * 256 + b2 * 65536 + b3 * 16777216)) ∧ w' = w := by
  have r0 := or_zero (c := b0) (by omega) (by omega)
  have r1 : bits BinOp.or IntKind.u64 (b0) (b1 * 256) = b0 + b1 * 256 := or_at 8 (p := 256) rfl (by omega) (by omega) (by omega) (by omega)
  have r2 : bits BinOp.or IntKind.u64 (b0 + b1 * 256) (b2 * 65536) = b0 + b1 * 256 + b2 * 65536 := or_at 16 (p := 65536) rfl (by omega) (by omega) (by omega) (by omega)
  have r3 : bits BinOp.or IntKind.u64 (b0 + b1 * 256 + b2 * 65536) (b3 * 16777216) = b0 + b1 * 256 + b2 * 65536 + b3 * 16777216 := or_at 24 (p := 16777216) rfl (by omega) (by omega) (by omega) (by omega)
  go_enter Tryz.func254, Tryz.ntmps254
  go_wp2
  refine wp_loop_rounds 5 ?_
  iterate 5 (rw [rounds_succ]; go_wp2)
  go_ret
  exact ⟨rfl, rfl⟩
set_option maxRecDepth 100000 in
set_option maxHeartbeats 1000000 in
theorem getLow8_any (g o cap : Nat) (b0 b1 b2 b3 b4 b5 b6 b7 : Int) (w : World) (h0 : w.cell? ⟨g, o, none⟩ = some (.int .u8 b0)) (h1 : w.cell? ⟨g, o + 1, none⟩ = some (.int .u8 b1)) (h2 : w.cell? ⟨g, o + 2, none⟩ = some (.int .u8 b2)) (h3 : w.cell? ⟨g, o + 3, none⟩ = some (.int .u8 b3)) (h4 : w.cell? ⟨g, o + 4, none⟩ = some (.int .u8 b4)) (h5 : w.cell? ⟨g, o + 5, none⟩ = some (.int .u8 b5)) (h6 : w.cell? ⟨g, o + 6, none⟩ = some (.int .u8 b6)) (h7 : w.cell? ⟨g, o + 7, none⟩ = some (.int .u8 b7))
    (l0 : 0 ≤ b0 ∧ b0 ≤ 255) (l1 : 0 ≤ b1 ∧ b1 ≤ 255) (l2 : 0 ≤ b2 ∧ b2 ≤ 255) (l3 : 0 ≤ b3 ∧ b3 ≤ 255) (l4 : 0 ≤ b4 ∧ b4 ≤ 255) (l5 : 0 ≤ b5 ∧ b5 ≤ 255) (l6 : 0 ≤ b6 ∧ b6 ≤ 255) (l7 : 0 ≤ b7 ∧ b7 ≤ 255) :
    Calls Tryz.prog 254 #[.slice (some ⟨g, o, none⟩) 8 cap] w fun e w' => e = .returned (.int .u64 (b0 + b1 * 256 + b2 * 65536 + b3 * 16777216 + b4 * 4294967296 + b5 * 1099511627776 + b6 * 281474976710656 + b7 * 72057594037927936)) ∧ w' = w := by
  have r0 := or_zero (c := b0) (by omega) (by omega)
  have r1 : bits BinOp.or IntKind.u64 (b0) (b1 * 256) = b0 + b1 * 256 := or_at 8 (p := 256) rfl (by omega) (by omega) (by omega) (by omega)
  have r2 : bits BinOp.or IntKind.u64 (b0 + b1 * 256) (b2 * 65536) = b0 + b1 * 256 + b2 * 65536 := or_at 16 (p := 65536) rfl (by omega) (by omega) (by omega) (by omega)
  have r3 : bits BinOp.or IntKind.u64 (b0 + b1 * 256 + b2 * 65536) (b3 * 16777216) = b0 + b1 * 256 + b2 * 65536 + b3 * 16777216 := or_at 24 (p := 16777216) rfl (by omega) (by omega) (by omega) (by omega)
  have r4 : bits BinOp.or IntKind.u64 (b0 + b1 * 256 + b2 * 65536 + b3 * 16777216) (b4 * 4294967296) = b0 + b1 * 256 + b2 * 65536 + b3 * 16777216 + b4 * 4294967296 := or_at 32 (p := 4294967296) rfl (by omega) (by omega) (by omega) (by omega)
  have r5 : bits BinOp.or IntKind.u64 (b0 + b1 * 256 + b2 * 65536 + b3 * 16777216 + b4 * 4294967296) (b5 * 1099511627776) = b0 + b1 * 256 + b2 * 65536 + b3 * 16777216 + b4 * 4294967296 + b5 * 1099511627776 := or_at 40 (p := 1099511627776) rfl (by omega) (by omega) (by omega) (by omega)
  have r6 : bits BinOp.or IntKind.u64 (b0 + b1 * 256 + b2 * 65536 + b3 * 16777216 + b4 * 4294967296 + b5 * 1099511627776) (b6 * 281474976710656) = b0 + b1 * 256 + b2 * 65536 + b3 * 16777216 + b4 * 4294967296 + b5 * 1099511627776 + b6 * 281474976710656 := or_at 48 (p := 281474976710656) rfl (by omega) (by omega) (by omega) (by omega)
  have r7 : bits BinOp.or IntKind.u64 (b0 + b1 * 256 + b2 * 65536 + b3 * 16777216 + b4 * 4294967296 + b5 * 1099511627776 + b6 * 281474976710656) (b7 * 72057594037927936) = b0 + b1 * 256 + b2 * 65536 + b3 * 16777216 + b4 * 4294967296 + b5 * 1099511627776 + b6 * 281474976710656 + b7 * 72057594037927936 := or_at 56 (p := 72057594037927936) rfl (by omega) (by omega) (by omega) (by omega)
  go_enter Tryz.func254, Tryz.ntmps254
  go_wp2
  refine wp_loop_rounds 9 ?_
  iterate 9 (rw [rounds_succ]; go_wp2)
  go_ret
  exact ⟨rfl, rfl⟩
end Go.Proofs.YtioldepgoodipaaGreat
