/- Whether a Can is right, and its bytes: the program's and the model's. For every number of 64 bits and every text; nothing that was there is written. -/
import Derived.Test.YtioldepgoodipaaGreatIdOf
import Derived.Test.YtioldepgoodipaaGreatJoined
import Derived.Deep.RegionLawGrows
import Derived.Handy
import Derived.Lib.SmallJoins
namespace Go.Proofs.YtioldepgoodipaaGreat
open Go.RowKit
set_option linter.unusedVariables false

theorem run_field_idcode (a b d s c : Int) (w : World) : (Instr.field 185 (.agg #[.int .i64 a, .int .i64 b, .int .i64 d, .int .i64 s, .int .i64 c]) 1).run Tryz.prog w = .ok (.int .i64 c) w := by
  simp [Instr.field, asAgg, go_sem]

/-- That Can is right. -/
def canB (n : Int) (s : ByteArray) : Bool := ofB n && decide (s.size ≤ 8)
theorem idOfV_form (n : Int) : ∃ a b d s c, idOfV n = .agg #[.int .i64 a, .int .i64 b, .int .i64 d, .int .i64 s, .int .i64 c] ∧ (c == 0) = ofB n := by
  unfold idOfV idOutV
  rcases h : ofB n
  · exact ⟨_, _, _, _, _, rfl, rfl⟩
  · exact ⟨_, _, _, _, _, rfl, rfl⟩

set_option maxHeartbeats 1000000 in
theorem specCanRight_any (n : Int) (s : ByteArray) (w : World) (h0 : -9223372036854775808 ≤ n) (h1 : n ≤ 9223372036854775807) (hs : s.size ≤ maxLen) :
    Calls Tryz.prog 63 #[.agg #[.int .i64 n, .string s]] w fun e w' => e = .returned (.bool (canB n s)) ∧ Below w.heap.size w w' := by
  unfold maxLen at hs
  obtain ⟨a, b, d, s', c, ho, hc⟩ := idOfV_form n
  have H := fun W => Lib.hid (specIdOf_any n W h0 h1)
  rw [ho] at H
  clear ho
  have hff := run_field_idcode a b d s' c
  rcases h : ofB n
  · rw [h] at hc
    have HO := Lib.hid (show canB n s = false by simp [canB, h])
    go_enter Tryz.func63, Tryz.ntmps63
    go_wp2_with (go_at_call 121; refine (H _).out.mono ?_; rintro e w1 ⟨rfl, h1⟩; obtain ⟨c1, f1⟩ := bcell h1; have z1 : w.heap.size < w1.heap.size := (by have := h1.size; simp at this; omega))
    go_ret
    exact ⟨by rw [HO.out]; rfl, ((Below.refl _ _).alloc (Nat.le_refl _) _).trans (h1.mono (by simp))⟩
  · rw [h] at hc
    have HO := Lib.hid (show canB n s = decide ((s.size : Int) ≤ 8) by simp [canB, h]; omega)
    go_enter Tryz.func63, Tryz.ntmps63
    go_wp2_with (go_at_call 121; refine (H _).out.mono ?_; rintro e w1 ⟨rfl, h1⟩; obtain ⟨c1, f1⟩ := bcell h1; have z1 : w.heap.size < w1.heap.size := (by have := h1.size; simp at this; omega))
    go_ret
    exact ⟨by rw [HO.out]; rfl, ((Below.refl _ _).alloc (Nat.le_refl _) _).trans (h1.mono (by simp))⟩

set_option maxHeartbeats 1000000 in
theorem implCanRight_any (n : Int) (s : ByteArray) (w : World) (h0 : -9223372036854775808 ≤ n) (h1 : n ≤ 9223372036854775807) (hs : s.size ≤ maxLen) :
    Calls Tryz.prog 66 #[.agg #[.int .i64 n, .string s]] w fun e w' => e = .returned (.bool (canB n s)) ∧ Below w.heap.size w w' := by
  unfold maxLen at hs
  obtain ⟨a, b, d, s', c, ho, hc⟩ := idOfV_form n
  have H := fun W => Lib.hid (implIdOf_any n W h0 h1)
  rw [ho] at H
  clear ho
  have hff := run_field_idcode a b d s' c
  rcases h : ofB n
  · rw [h] at hc
    have HO := Lib.hid (show canB n s = false by simp [canB, h])
    go_enter Tryz.func66, Tryz.ntmps66
    go_wp2_with (go_at_call 133; refine (H _).out.mono ?_; rintro e w1 ⟨rfl, h1⟩; obtain ⟨c1, f1⟩ := bcell h1; have z1 : w.heap.size < w1.heap.size := (by have := h1.size; simp at this; omega))
    go_ret
    exact ⟨by rw [HO.out]; rfl, ((Below.refl _ _).alloc (Nat.le_refl _) _).trans (h1.mono (by simp))⟩
  · rw [h] at hc
    have HO := Lib.hid (show canB n s = decide ((s.size : Int) ≤ 8) by simp [canB, h]; omega)
    go_enter Tryz.func66, Tryz.ntmps66
    go_wp2_with (go_at_call 133; refine (H _).out.mono ?_; rintro e w1 ⟨rfl, h1⟩; obtain ⟨c1, f1⟩ := bcell h1; have z1 : w.heap.size < w1.heap.size := (by have := h1.size; simp at this; omega))
    go_ret
    exact ⟨by rw [HO.out]; rfl, ((Below.refl _ _).alloc (Nat.le_refl _) _).trans (h1.mono (by simp))⟩

/-- The four bytes of a number, the highest first, and a fifth one. -/
def headB (n : Int) (k : Nat) : List UInt8 := [UInt8.ofNat (n / 16777216).toNat, UInt8.ofNat (n / 65536 % 256).toNat, UInt8.ofNat (n / 256 % 256).toNat, UInt8.ofNat (n % 256).toNat, UInt8.ofNat k]
/-- The bytes of a Can. -/
def canBytesB (n : Int) (s : ByteArray) : List UInt8 := if canB n s = true then headB n s.size ++ s.data.toList else []
theorem canB_of {n : Int} {s : ByteArray} (h : canB n s = true) : ofB n = true ∧ s.size ≤ 8 := by simpa [canB] using h
theorem headB_cells {n : Int} {k : Nat} (h0 : 0 ≤ n) (h1 : n ≤ 536870911) (hk : k ≤ 255) : bcells (headB n k) = [.int .u8 (n / 16777216), .int .u8 (n / 65536 % 256), .int .u8 (n / 256 % 256), .int .u8 (n % 256), .int .u8 (k : Int)] := by
  simp [bcells, headB]
  omega

theorem shift_eq (n : Int) (h0 : 0 ≤ n) : n / 2 ^ 8 % 256 = n / 256 % 256 ∧ n / 2 ^ 16 % 256 = n / 65536 % 256 ∧ n / 2 ^ 24 = n / 16777216 := ⟨rfl, rfl, rfl⟩

theorem Can.info8 : (Tryz.prog.info? 5).map (fun i => (i.zero, i.size, i.bytes)) = some (some (.int .u8 0), 1, 1) := by kernel_rfl

theorem cells_first {w : World} {B : Nat} {cs : Array Value} {t : TypeId} {fr : Nat × Nat} (hb : w.heap[B]? = some (.cells cs t fr)) {l : List Value} (hl : cs.toList = l := by rfl) : ∀ (j : Nat) u, l[j]? = some u → w.cell? ((⟨B, 0, none⟩ : Addr).add j) = some u := fun j u hu => by
  have hadd : (⟨B, 0, none⟩ : Addr).add j = ⟨B, j, none⟩ := by unfold Addr.add; split <;> simp_all
  rw [hadd, cell_of_row w B j cs t fr hb]
  subst hl
  simpa using hu
theorem heap_two (w : World) (o1 o2 : Obj) : (((w.alloc o1).alloc o2).drew).heap[w.heap.size]? = some o1 :=
  (Below.heap_alloc (w.alloc o1) o2 w.heap.size (by simp)).trans (heap_alloc_new w o1)
theorem heap_two' (w : World) (o1 o2 o3 : Obj) (h : o2 = o3) : (((w.alloc o1).alloc o2).drew).heap[w.heap.size + 1]? = some o3 := by
  subst h
  show ((w.alloc o1).alloc o2).heap[w.heap.size + 1]? = some o2
  have := heap_alloc_new (w.alloc o1) o2
  simpa using this

end Go.Proofs.YtioldepgoodipaaGreat
