/- Whether a Can is right, and its bytes: the program's and the model's. For every number of 64 bits and every text; nothing that was there is written. -/
import Derived.Test.YtdodjkocdaghaaaIdOf
import Derived.Test.YtdodjkocdaghaaaJoined
import Derived.Deep.RegionLawGrows
import Derived.Handy
import Derived.Lib.SmallJoins
namespace Go.Proofs.Ytdodjkocdaghaaa
open Go.RowKit
set_option linter.unusedVariables false

theorem run_field_idcode (a b d s c : Int) (w : World) : (Instr.field 29 (.agg #[.int .i64 a, .int .i64 b, .int .i64 d, .int .i64 s, .int .i64 c]) 1).run Try.prog w = .ok (.int .i64 c) w := by
  simp [Instr.field, asAgg, go_sem]

/-- That Can is right. -/
def canB (n : Int) (s : ByteArray) : Bool := ofB n && decide (s.size ≤ 8)
theorem idOfV_form (n : Int) : ∃ a b d s c, idOfV n = .agg #[.int .i64 a, .int .i64 b, .int .i64 d, .int .i64 s, .int .i64 c] ∧ (c == 0) = ofB n := by
  unfold idOfV idOutV
  rcases h : ofB n
  · exact ⟨_, _, _, _, _, rfl, rfl⟩
  · exact ⟨_, _, _, _, _, rfl, rfl⟩

set_option maxHeartbeats 1000000 in
theorem specCanRight_any (n : Int) (s : ByteArray) (w : World) (h0 : -9223372036854775808 ≤ n) (h1 : n ≤ 9223372036854775807) (hs : s.size ≤ maxLen) :
    Calls Try.prog 33 #[.agg #[.int .i64 n, .string s]] w fun e w' => e = .returned (.bool (canB n s)) ∧ Below w.heap.size w w' := by
  unfold maxLen at hs
  obtain ⟨a, b, d, s', c, ho, hc⟩ := idOfV_form n
  have H := fun W => Lib.hid (specIdOf_any n W h0 h1)
  rw [ho] at H
  clear ho
  have hff := run_field_idcode a b d s' c
  rcases h : ofB n
  · rw [h] at hc
    have HO := Lib.hid (show canB n s = false by simp [canB, h])
    go_enter Try.func33, Try.ntmps33
    go_wp2_with (go_at_call 24; refine (H _).out.mono ?_; rintro e w1 ⟨rfl, h1⟩; obtain ⟨c1, f1⟩ := bcell h1; have z1 : w.heap.size < w1.heap.size := (by have := h1.size; simp at this; omega))
    go_ret
    exact ⟨by rw [HO.out]; rfl, ((Below.refl _ _).alloc (Nat.le_refl _) _).trans (h1.mono (by simp))⟩
  · rw [h] at hc
    have HO := Lib.hid (show canB n s = decide ((s.size : Int) ≤ 8) by simp [canB, h]; omega)
    go_enter Try.func33, Try.ntmps33
    go_wp2_with (go_at_call 24; refine (H _).out.mono ?_; rintro e w1 ⟨rfl, h1⟩; obtain ⟨c1, f1⟩ := bcell h1; have z1 : w.heap.size < w1.heap.size := (by have := h1.size; simp at this; omega))
    go_ret
    exact ⟨by rw [HO.out]; rfl, ((Below.refl _ _).alloc (Nat.le_refl _) _).trans (h1.mono (by simp))⟩

set_option maxHeartbeats 1000000 in
theorem implCanRight_any (n : Int) (s : ByteArray) (w : World) (h0 : -9223372036854775808 ≤ n) (h1 : n ≤ 9223372036854775807) (hs : s.size ≤ maxLen) :
    Calls Try.prog 32 #[.agg #[.int .i64 n, .string s]] w fun e w' => e = .returned (.bool (canB n s)) ∧ Below w.heap.size w w' := by
  unfold maxLen at hs
  obtain ⟨a, b, d, s', c, ho, hc⟩ := idOfV_form n
  have H := fun W => Lib.hid (implIdOf_any n W h0 h1)
  rw [ho] at H
  clear ho
  have hff := run_field_idcode a b d s' c
  rcases h : ofB n
  · rw [h] at hc
    have HO := Lib.hid (show canB n s = false by simp [canB, h])
    go_enter Try.func32, Try.ntmps32
    go_wp2_with (go_at_call 15; refine (H _).out.mono ?_; rintro e w1 ⟨rfl, h1⟩; obtain ⟨c1, f1⟩ := bcell h1; have z1 : w.heap.size < w1.heap.size := (by have := h1.size; simp at this; omega))
    go_ret
    exact ⟨by rw [HO.out]; rfl, ((Below.refl _ _).alloc (Nat.le_refl _) _).trans (h1.mono (by simp))⟩
  · rw [h] at hc
    have HO := Lib.hid (show canB n s = decide ((s.size : Int) ≤ 8) by simp [canB, h]; omega)
    go_enter Try.func32, Try.ntmps32
    go_wp2_with (go_at_call 15; refine (H _).out.mono ?_; rintro e w1 ⟨rfl, h1⟩; obtain ⟨c1, f1⟩ := bcell h1; have z1 : w.heap.size < w1.heap.size := (by have := h1.size; simp at this; omega))
    go_ret
    exact ⟨by rw [HO.out]; rfl, ((Below.refl _ _).alloc (Nat.le_refl _) _).trans (h1.mono (by simp))⟩

/-- The four bytes of a number, the highest first, and a fifth one. -/
def headB (n : Int) (k : Nat) : List UInt8 := [UInt8.ofNat (n / 16777216).toNat, UInt8.ofNat (n / 65536 % 256).toNat, UInt8.ofNat (n / 256 % 256).toNat, UInt8.ofNat (n % 256).toNat, UInt8.ofNat k]
/-- The bytes of a Can. -/
def canBytesB (n : Int) (s : ByteArray) : List UInt8 := if canB n s = true then headB n s.size ++ s.data.toList else []
theorem canB_of {n : Int} {s : ByteArray} (h : canB n s = true) : ofB n = true ∧ s.size ≤ 8 := by simpa [canB] using h
theorem headB_cells {n : Int} {k : Nat} (h0 : 0 ≤ n) (h1 : n ≤ 536870911) (hk : k ≤ 255) : bcells (headB n k) = [.int .u8 (n / 16777216), .int .u8 (n / 65536 % 256), .int .u8 (n / 256 % 256), .int .u8 (n % 256), .int .u8 (k : Int)] := by
  simp [bcells, headB]
  omega

set_option maxHeartbeats 1000000 in
theorem specCanBytes_any (n : Int) (s : ByteArray) (w : World) (h0 : -9223372036854775808 ≤ n) (h1 : n ≤ 9223372036854775807) (hs : s.size ≤ maxLen) :
    Calls Try.prog 25 #[.agg #[.int .i64 n, .string s]] w fun e w' => e = .returned (.string ⟨(canBytesB n s).toArray⟩) ∧ Below w.heap.size w w' := by
  rcases h : canB n s
  · have HO := Lib.hid (show canBytesB n s = [] by simp [canBytesB, h])
    have HR := fun W => Lib.hid (specCanRight_any n s W h0 h1 hs)
    rw [h] at HR
    go_enter Try.func25, Try.ntmps25
    go_wp2_with (go_at_call 33; refine (HR _).out.mono ?_; rintro e w1 ⟨rfl, h1⟩; obtain ⟨c1, f1⟩ := bcell h1; have z1 : w.heap.size < w1.heap.size := (by have := h1.size; simp at this; omega))
    go_ret
    exact ⟨by rw [HO.out]; rfl, ((Below.refl _ _).alloc (Nat.le_refl _) _).trans (h1.mono (by simp))⟩
  · have HO := Lib.hid (show canBytesB n s = headB n s.size ++ s.data.toList by simp [canBytesB, h])
    have HR := fun W => Lib.hid (specCanRight_any n s W h0 h1 hs)
    rw [h] at HR
    obtain ⟨hof, hs8⟩ := canB_of h
    rw [ofB_iff] at hof
    obtain ⟨hof1, hof2, hof3⟩ := hof
    clear hof3 h0 h1 hs h
    obtain ⟨l, hl⟩ : ∃ l, headB n s.size = l := ⟨_, rfl⟩
    have hl5 : 5 = l.length := by rw [← hl]; rfl
    have hcs := headB_cells (n := n) (k := s.size) hof1 hof2 (by omega)
    rw [hl] at hcs HO
    clear hl
    have HL := Lib.hid hl5
    have hl6 : l.length ≤ 6 := by omega
    have HC := Lib.hid hcs
    clear hl5 hcs
    go_enter Try.func25, Try.ntmps25
    go_wp2_with (go_at_call 33; refine (HR _).out.mono ?_; rintro e w1 ⟨rfl, h1⟩; obtain ⟨c1, f1⟩ := bcell h1; have z1 : w.heap.size < w1.heap.size := (by have := h1.size; simp at this; omega); have hcv := conv_row (P := Try.prog) (heap_alloc_new w1 (.cells #[.int .u8 (n / 16777216), .int .u8 (n / 65536 % 256), .int .u8 (n / 256 % 256), .int .u8 (n % 256), .int .u8 (s.size : Int)] 5)) (l := l) 5 HL.out (by rw [HC.out]; rfl) 22 9 Try.underlying22 Try.underlying5 Try.underlying9)
    go_ret
    exact ⟨by rw [HO.out, ← mk_append]; rfl, (((Below.refl _ _).alloc (Nat.le_refl _) _).trans (h1.mono (by simp))).alloc (Nat.le_of_lt z1) _⟩

theorem shift_eq (n : Int) (h0 : 0 ≤ n) : n / 2 ^ 8 % 256 = n / 256 % 256 ∧ n / 2 ^ 16 % 256 = n / 65536 % 256 ∧ n / 2 ^ 24 = n / 16777216 := ⟨rfl, rfl, rfl⟩

set_option maxHeartbeats 1000000 in
theorem numberBytes_any (n : Int) (w : World) (h0 : 0 ≤ n) (h1 : n ≤ 536870911) :
    Calls Try.prog 47 #[.int .i64 n] w fun e w' => e = .returned (.agg #[.int .u8 (n / 16777216), .int .u8 (n / 65536 % 256), .int .u8 (n / 256 % 256), .int .u8 (n % 256)]) ∧ Below w.heap.size w w' := by
  go_enter Try.func47, Try.ntmps47
  go_wp2
  refine wp_loop_rounds 5 ?_
  iterate 5 (rw [rounds_succ]; go_wp2)
  exact bodyPost_ret (v := .agg #[.int .u8 (n / 16777216), .int .u8 (n / 65536 % 256), .int .u8 (n / 256 % 256), .int .u8 (n % 256)]) (by simp [results, Try.results47, go_sem]) rfl ⟨rfl, ((Below.refl _ _).alloc (Nat.le_refl _) _).alloc (by simp) _⟩

theorem Can.info8 : (Try.prog.info? 5).map (fun i => (i.zero, i.size, i.bytes)) = some (some (.int .u8 0), 1, 1) := by kernel_rfl

theorem cells_first {w : World} {B : Nat} {cs : Array Value} {t : TypeId} {fr : Nat × Nat} (hb : w.heap[B]? = some (.cells cs t fr)) {l : List Value} (hl : cs.toList = l := by rfl) : ∀ (j : Nat) u, l[j]? = some u → w.cell? ((⟨B, 0, none⟩ : Addr).add j) = some u := fun j u hu => by
  have hadd : (⟨B, 0, none⟩ : Addr).add j = ⟨B, j, none⟩ := by unfold Addr.add; split <;> simp_all
  rw [hadd, cell_of_row w B j cs t fr hb]
  subst hl
  simpa using hu
theorem heap_two (w : World) (o1 o2 : Obj) : (((w.alloc o1).alloc o2).drew).heap[w.heap.size]? = some o1 :=
  (Below.heap_alloc (w.alloc o1) o2 w.heap.size (by simp)).trans (heap_alloc_new w o1)
theorem heap_two' (w : World) (o1 o2 o3 : Obj) (h : o2 = o3) : (((w.alloc o1).alloc o2).drew).heap[w.heap.size + 1]? = some o3 := by
  subst h
  show ((w.alloc o1).alloc o2).heap[w.heap.size + 1]? = some o2
  have := heap_alloc_new (w.alloc o1) o2
  simpa using this

set_option maxHeartbeats 2000000 in
theorem implCanBytes_any (n : Int) (s : ByteArray) (w : World) (h0 : -9223372036854775808 ≤ n) (h1 : n ≤ 9223372036854775807) (hs : s.size ≤ maxLen) :
    Calls Try.prog 17 #[.agg #[.int .i64 n, .string s]] w fun e w' => e = .returned (.string ⟨(canBytesB n s).toArray⟩) ∧ Below w.heap.size w w' := by
  rcases h : canB n s
  · have HO := Lib.hid (show canBytesB n s = [] by simp [canBytesB, h])
    have HR := fun W => Lib.hid (implCanRight_any n s W h0 h1 hs)
    rw [h] at HR
    go_enter Try.func17, Try.ntmps17
    go_wp2_with (go_at_call 32; refine (HR _).out.mono ?_; rintro e w1 ⟨rfl, h1⟩; obtain ⟨c1, f1⟩ := bcell h1; have z1 : w.heap.size < w1.heap.size := (by have := h1.size; simp at this; omega))
    go_ret
    exact ⟨by rw [HO.out]; rfl, ((Below.refl _ _).alloc (Nat.le_refl _) _).trans (h1.mono (by simp))⟩
  · have HO := Lib.hid (show canBytesB n s = headB n s.size ++ s.data.toList by simp [canBytesB, h])
    have HR := fun W => Lib.hid (implCanRight_any n s W h0 h1 hs)
    rw [h] at HR
    obtain ⟨hof, hs8⟩ := canB_of h
    rw [ofB_iff] at hof
    obtain ⟨hof1, hof2, hof3⟩ := hof
    clear hof3 h0 h1 hs h
    obtain ⟨l, hl⟩ : ∃ l, headB n s.size = l := ⟨_, rfl⟩
    have hl5 : 5 = l.length := by rw [← hl]; rfl
    have hcs := headB_cells (n := n) (k := s.size) hof1 hof2 (by omega)
    rw [hl] at hcs HO
    clear hl
    have HL := Lib.hid hl5
    have hl6 : l.length ≤ 6 := by omega
    have HC := Lib.hid hcs
    clear hl5 hcs
    have HN := fun W => Lib.hid (numberBytes_any n W hof1 hof2)
    obtain ⟨i0, hi, hz0, hz1, hz2⟩ := info_parts Can.info8
    go_enter Try.func17, Try.ntmps17
    go_wp2_with (first
      | (go_at_call 32; refine (HR _).out.mono ?_; rintro e w1 ⟨rfl, h1⟩; obtain ⟨c1, f1⟩ := bcell h1; have z1 : w.heap.size < w1.heap.size := (by have := h1.size; simp at this; omega))
      | (go_at_call 47; refine (HN _).out.mono ?_; rintro e w2 ⟨rfl, h2⟩; obtain ⟨c2, f2⟩ := bcell h2; have z2 : w.heap.size < w2.heap.size := (by have := h2.size; omega)))
    have hwk : IntKind.u8.wrap (s.size : Int) = s.size := IntWalk.u8_in _ (by omega)
    have b1 : Below w.heap.size w w2 := (((Below.refl _ _).alloc (Nat.le_refl _) _).trans (h1.mono (by simp))).trans (h2.mono (Nat.le_of_lt z1))
    go_region_law (refine step_append_grows rfl (.tmp 11) (.tmp 16) 22 rfl 5 i0 (.int .u8 0) 1 1 Try.underlying22 hi hz0 hz1 hz2 rfl (by decide) (some ⟨w2.heap.size, 0, none⟩) 4 4 [.int .u8 (n / 16777216), .int .u8 (n / 65536 % 256), .int .u8 (n / 256 % 256), .int .u8 (n % 256)] (by simp [Act.eval]) (fun h => by cases h) rfl (fun b hb => by cases hb; exact cells_first (heap_two _ _ _)) ⟨w2.heap.size + 1, 0, none⟩ 1 1 [.int .u8 (s.size : Int)] (by simp [Act.eval]) rfl (cells_first (cs := #[.int .u8 (s.size : Int)]) (t := 5) (fr := (0, 0)) (heap_two' _ _ _ _ (by first | rfl | rw [hwk]))) (fun u hu => by simp at hu; subst hu; rfl) (by decide) (by unfold maxLen; decide) (by decide) ?_; intro v' w3 hown hgrow; obtain ⟨g, cap, rfl⟩ := Joins.ownsRow_form hown (by decide))
    have hO : OwnsB w3 (w2.heap.size + 2) 5 (.slice (some ⟨g, 0, none⟩) 5 cap) l := by
      unfold OwnsB
      rw [HC.out, ← HL.out]
      simpa using hown
    have hcv := hO.conv 22 9 Try.underlying22 Try.underlying5 Try.underlying9
    have bb := (Below.refl _ _).grown hgrow (Nat.le_refl _) (fun k hk => by cases hk)
    obtain ⟨c3, f3⟩ := bcell bb
    have b3 : Below w.heap.size w w3 := ((b1.alloc (Nat.le_of_lt z2) _).alloc (by simp; omega) _).drew.trans (bb.mono (by simp; omega))
    have z3 : w.heap.size < w2.heap.size + 1 := by omega
    have k1 : w3.cell? ⟨w.heap.size, 1, none⟩ = some (.string s) := by
      rw [c3 _ _ (by simp; omega)]
      simp [go_sem, z3, z2, c2, z1, c1]
    have hsz : (ByteArray.mk l.toArray).size ≤ 1000000 := by simp [ByteArray.size]; omega
    have HZ := Lib.hid hsz
    clear hsz c1 c2 c3 f1 f2 f3 hO hown hgrow bb
    generalize (w2.heap.size + 1) = zz at *
    go_wp2_with (go_at_call 48; refine (joined_any _ _ _ HZ.out (by omega)).mono ?_; rintro e w4 ⟨rfl, h4⟩)
    go_ret
    exact ⟨by rw [HO.out]; rfl, b3.trans (h4.mono b3.size)⟩
end Go.Proofs.Ytdodjkocdaghaaa
