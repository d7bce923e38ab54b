/- The draws of the statement on seals: a drawn text of at most 19997 bytes; a number and a text of at most 8 bytes; a place below a bound. -/
import Derived.Test.YtmimocoeojhjjaaDraw
import Derived.Test.YtmimocoeojhjjaaCrc
namespace Go.Proofs.Ytmimocoeojhjjaa
open Go.RowKit
set_option linter.unusedVariables false

/-- A drawn text of at most that many bytes. -/
def GotT (most : Nat) (w : World) (e : Ending) (w' : World) : Prop := ∃ l : List UInt8, l.length ≤ most ∧ e = .returned (.string ⟨l.toArray⟩) ∧ Below w.heap.size w w'

/-- A row of zeros. -/
theorem own_zero {w : World} {base : Nat} {T : TypeId} {v : Value} {n : Nat} (h : w.ownsRow base T 1 v n (madeCells (Value.int .u8 0).cells (n * 1)).toList) : OwnsB w base T v (List.replicate n 0) := by
  have e : (madeCells (Value.int .u8 0).cells (n * 1)).toList = bcells (List.replicate n 0) := by
    rw [show (Value.int .u8 0).cells = #[Value.int .u8 0] from rfl, toList_madeCells_one, Nat.mul_one]
    simp [bcells]
  rw [e] at h
  unfold OwnsB
  simpa using h

set_option maxRecDepth 100000 in
set_option maxHeartbeats 2000000 in
theorem drawSeal_any (a : Option Addr) (len cap : Nat) (zs : List Int) (w : World) (hr : RowIn w a len zs) (hlen : len ≤ 1048576) (hba : 0 < len → ∀ b o, a = some ⟨b, o, none⟩ → b < w.heap.size) :
    Calls Try.prog 6 #[.slice a len cap] w (GotT 20000 w) := by
  obtain ⟨i0, hi, hz0, hz1, hz2⟩ := info_parts Draw.info8
  have HS := Lib.hid (source_next (cap := cap) hr hlen hba)
  clear hba hr
  go_enter Try.func6, Try.ntmps6
  go_wp2_with (first
    | (go_at_call 17; refine HS.out.mono ?_; rintro e w1 ⟨rfl, hd1⟩)
    | (go_at_call 18; refine (one_next hd1 _ (by omega)).mono ?_; rintro e w2 ⟨v, rfl, hd2, _⟩)
    | (go_at_call 19; refine (n_next hd2 _ (by omega)).mono ?_; rintro e w3 ⟨n, rfl, n0, n1, hd3, _⟩)
    | (go_at_call 20; refine (bytes_next hd3 _ n0 (by omega)).mono ?_; rintro e w4 ⟨l, hl, rfl, hd4, _⟩)
    | (at_make; refine wpList_make_full _ rfl (.tmp 10) (.tmp 10) 22 rfl w3.heap.size 5 i0 (.int .u8 0) 1 Try.underlying22 hi hz0 hz1 .i64 .i64 (19995 + n) (19995 + n) (19995 + n).toNat (by rfl) (by rfl) (by omega) (by omega) (by rw [hz2]; omega) (by unfold maxLen; omega) (Nat.le_refl _) ?_; intro w5 hown hgrow; have ho := own_zero hown; have hcv := ho.conv (P := Try.prog) 22 9 Try.underlying22 Try.underlying5 Try.underlying9; have hb5 := hd3.below.grown hgrow hd3.below.size (fun k hk => (by cases hk))))
  · go_ret
    exact ⟨List.replicate (19995 + n).toNat 0, by simp; omega, by simp, hb5⟩
  · go_ret
    exact ⟨l, by omega, rfl, hd4.below⟩

/-- A number and a drawn text of at most 8 bytes. -/
def GotCT (w : World) (e : Ending) (w' : World) : Prop := ∃ (v : Int) (l : List UInt8), -9223372036854775808 ≤ v ∧ v ≤ 9223372036854775807 ∧ l.length ≤ 8 ∧ e = .returned (.tuple #[.int .i64 v, .string ⟨l.toArray⟩]) ∧ Below w.heap.size w w'

theorem crcMoreI_lo (s : ByteArray) : 0 ≤ crcMoreI 0 s ∧ crcMoreI 0 s ≤ 4294967295 := by
  unfold crcMoreI
  split
  · omega
  · exact (R32.crc (show (0 : Int).toNat < 4294967296 by simp) _).int

set_option maxRecDepth 100000 in
set_option maxHeartbeats 2000000 in
theorem drawCrcMore_any (a : Option Addr) (len cap : Nat) (zs : List Int) (w : World) (hr : RowIn w a len zs) (hlen : len ≤ 1048576) (hba : 0 < len → ∀ b o, a = some ⟨b, o, none⟩ → b < w.heap.size) :
    Calls Try.prog 11 #[.slice a len cap] w (GotCT w) := by
  have HS := Lib.hid (source_next (cap := cap) hr hlen hba)
  clear hba hr
  go_enter Try.func11, Try.ntmps11
  go_wp2_with fail
  refine HS.out.mono ?_
  rintro e w1 ⟨rfl, hd1⟩
  go_wp2_with fail
  refine (n_next hd1 _ (by omega)).mono ?_
  rintro e w2 ⟨n, rfl, n0, n1, hd2, _⟩
  go_wp2_with fail
  refine (bytes_next hd2 _ n0 (by omega)).mono ?_
  rintro e w3 ⟨l, hl, rfl, hd3, _⟩
  have HLen := Lib.hid hl
  clear hl
  go_wp2_with fail
  refine (one_next hd3 _ (by omega)).mono ?_
  rintro e w4 ⟨b, rfl, hd4, _⟩
  cases b
  · go_wp2_with fail
    refine (n_next hd4 _ (by omega)).mono ?_
    rintro e w5 ⟨m, rfl, m0, m1, hd5, _⟩
    go_wp2_with fail
    refine (bytes_next hd5 _ m0 (by omega)).mono ?_
    rintro e w6 ⟨k, hk, rfl, hd6, _⟩
    have hs : (ByteArray.mk k.toArray).size ≤ maxLen := by
      show k.toArray.size ≤ _
      unfold maxLen
      rw [List.size_toArray]
      omega
    have HK := Lib.hid hk
    clear hk
    go_wp2_with fail
    refine (specCrc_all _ _ hs).mono ?_
    rintro e w7 ⟨rfl, rfl⟩
    go_wp2
    go_ret2
    exact ⟨_, l, by have := (crcMoreI_lo ⟨k.toArray⟩).1; omega, by have := (crcMoreI_lo ⟨k.toArray⟩).2; omega, by have := HLen.out; omega, rfl, hd6.below⟩
  · go_wp2_with fail
    refine (edge_next hd4).mono ?_
    rintro e w5 ⟨v, rfl, v0, v1, hd5, _⟩
    go_wp2
    go_ret2
    exact ⟨v, l, v0, v1, by have := HLen.out; omega, rfl, hd5.below⟩

/-- A place below a bound. -/
def GotAt (most : Int) (w : World) (e : Ending) (w' : World) : Prop := ∃ v : Int, e = .returned (.int .i64 v) ∧ 0 ≤ v ∧ (v < most ∨ v = 0) ∧ w = w'

set_option maxHeartbeats 1000000 in
theorem lwAt_any (a : Option Addr) (len cap : Nat) (zs : List Int) (k : Nat) (most : Int) (w : World) (hr : RowIn w a len zs) (hlen : len ≤ 1048576) (hk : k ≤ 1000) (hm : most ≤ 9223372036854775807) :
    Calls Try.prog 9 #[.slice a len cap, .int .i64 (k : Int), .int .i64 most] w (GotAt most w) := by
  by_cases h1 : most ≤ 1
  · go_enter Try.func9, Try.ntmps9
    go_wp2
    go_ret
    exact ⟨0, rfl, by omega, .inr rfl, rfl⟩
  by_cases h2 : len = 0
  · subst h2
    go_enter Try.func9, Try.ntmps9
    go_wp2
    go_ret
    exact ⟨0, rfl, by omega, .inr rfl, rfl⟩
  · rcases hr with h | ⟨b, o, rfl, hl, hc, hz⟩
    · exact absurd h h2
    have hm2 : k % len < len := Nat.mod_lt _ (by omega)
    have hcell := hc (k % len) hm2
    have hb := hz (k % len)
    generalize zs.getD (k % len) 0 = y at *
    have e1 : ((len : Int) == 0) = false := by simp; omega
    have hlp : (1 : Int) ≤ (len : Int) := by omega
    have hmod : (k : Int) % (len : Int) = ((k % len : Nat) : Int) := by simp
    generalize k % len = q at *
    clear hc hz h2
    go_enter Try.func9, Try.ntmps9
    go_wp2
    go_ret
    exact ⟨y % most, rfl, Int.emod_nonneg _ (by omega), .inl (Int.emod_lt_of_pos _ (by omega)), rfl⟩
end Go.Proofs.Ytmimocoeojhjjaa
