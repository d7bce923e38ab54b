/- The draws of the statement on numbers and texts: any number of 64 bits; a drawn text of at most 20001 bytes. -/
import Derived.Test.YteempfbcjlbcnaaDoorDraw
namespace Go.Proofs.YteempfbcjlbcnaaDoor
open Go.RowKit
set_option linter.unusedVariables false

/-- A drawn number. -/
def GotN (w : World) (e : Ending) (w' : World) : Prop := ∃ v : Int, e = .returned (.int .i64 v) ∧ -9223372036854775808 ≤ v ∧ v ≤ 9223372036854775807 ∧ Below w.heap.size w w'
/-- A drawn text of at most that many bytes. -/
def GotText (most : Nat) (w : World) (e : Ending) (w' : World) : Prop := ∃ l : List UInt8, l.length ≤ most ∧ e = .returned (.string ⟨l.toArray⟩) ∧ Below w.heap.size w w'

section
variable {w u : World} {S : Nat} {a : Option Addr} {len cap : Nat} {zs : List Int}
set_option maxHeartbeats 1000000 in
theorem any_next (h : Dr w S a len cap zs u) : Calls Tryd.prog 13 #[.pointer (some ⟨S, 0, none⟩)] u (NextE w S a len cap zs u) := by
  have HO := Lib.hid (one_next h 4 (by omega))
  clear h
  go_enter Tryd.func13, Tryd.ntmps13
  go_wp2_with fail
  refine HO.out.mono ?_
  rintro e u1 ⟨b, rfl, h1, g1⟩
  cases b
  · go_wp2_with fail
    refine (n_next h1 _ (by omega)).mono ?_
    rintro e u2 ⟨v, rfl, v0, v1, h2, g2⟩
    go_wp2
    go_ret
    exact ⟨v - 1048576, rfl, by omega, by omega, h2, g1.trans g2⟩
  · go_wp2_with fail
    refine (edge_next h1).mono ?_
    rintro e u2 ⟨v, rfl, v0, v1, h2, g2⟩
    go_wp2
    go_ret
    exact ⟨v, rfl, v0, v1, h2, g1.trans g2⟩
end

set_option maxHeartbeats 1000000 in
theorem drawPutNum_any (a : Option Addr) (len cap : Nat) (zs : List Int) (w : World) (hr : RowIn w a len zs) (hlen : len ≤ 1048576) (hba : 0 < len → ∀ b o, a = some ⟨b, o, none⟩ → b < w.heap.size) :
    Calls Tryd.prog 4 #[.slice a len cap] w (GotN w) := by
  have HS := Lib.hid (source_next (cap := cap) hr hlen hba)
  clear hba hr
  go_enter Tryd.func4, Tryd.ntmps4
  go_wp2_with fail
  refine HS.out.mono ?_
  rintro e w1 ⟨rfl, hd1⟩
  go_wp2_with fail
  refine (any_next hd1).mono ?_
  rintro e w2 ⟨v, rfl, v0, v1, hd2, _⟩
  go_wp2
  go_ret
  exact ⟨v, rfl, v0, v1, hd2.below⟩
/-- A row of zeros. -/
theorem own_zeros {w : World} {base : Nat} {T : TypeId} {v : Value} {n : Nat} (h : w.ownsRow base T 1 v n (madeCells (Value.int .u8 0).cells (n * 1)).toList) : OwnsB w base T v (List.replicate n 0) := by
  have e : (madeCells (Value.int .u8 0).cells (n * 1)).toList = bcells (List.replicate n 0) := by
    rw [show (Value.int .u8 0).cells = #[Value.int .u8 0] from rfl, toList_madeCells_one, Nat.mul_one]
    simp [bcells]
  rw [e] at h
  unfold OwnsB
  simpa using h

set_option maxRecDepth 100000 in
set_option maxHeartbeats 2000000 in
theorem drawPutText_any (a : Option Addr) (len cap : Nat) (zs : List Int) (w : World) (hr : RowIn w a len zs) (hlen : len ≤ 1048576) (hba : 0 < len → ∀ b o, a = some ⟨b, o, none⟩ → b < w.heap.size) :
    Calls Tryd.prog 8 #[.slice a len cap] w (GotText 20001 w) := by
  obtain ⟨i0, hi, hz0, hz1, hz2⟩ := info_parts Draw.info8
  have HS := Lib.hid (source_next (cap := cap) hr hlen hba)
  clear hba hr
  go_enter Tryd.func8, Tryd.ntmps8
  go_wp2_with (first
    | (go_at_call 12; refine HS.out.mono ?_; rintro e w1 ⟨rfl, hd1⟩)
    | (go_at_call 19; refine (one_next hd1 _ (by omega)).mono ?_; rintro e w2 ⟨v, rfl, hd2, _⟩)
    | (go_at_call 20; refine (n_next hd2 _ (by omega)).mono ?_; rintro e w3 ⟨n, rfl, n0, n1, hd3, _⟩)
    | (go_at_call 21; refine (bytes_next hd3 _ n0 (by omega)).mono ?_; rintro e w4 ⟨l, hl, rfl, hd4, _⟩)
    | (at_make; refine wpList_make_full _ rfl (.tmp 10) (.tmp 10) 22 rfl w3.heap.size 5 i0 (.int .u8 0) 1 Tryd.underlying22 hi hz0 hz1 .i64 .i64 (19999 + n) (19999 + n) (19999 + n).toNat (by rfl) (by rfl) (by omega) (by omega) (by rw [hz2]; omega) (by unfold maxLen; omega) (Nat.le_refl _) ?_; intro w5 hown hgrow; have ho := own_zeros hown; have hcv := ho.conv (P := Tryd.prog) 22 9 Tryd.underlying22 Tryd.underlying5 Tryd.underlying9; have hb5 := hd3.below.grown hgrow hd3.below.size (fun k hk => (by cases hk))))
  · go_ret
    exact ⟨List.replicate (19999 + n).toNat 0, by simp; omega, by simp, hb5⟩
  · go_ret
    exact ⟨l, by omega, rfl, hd4.below⟩
/-- The code of a number with a code, taken out of it. -/
theorem run_field_num (n a c : Int) (w : World) : (Instr.field 26 (.agg #[.int .i64 n, .int .i64 a, .int .i64 c]) 2).run Tryd.prog w = .ok (.int .i64 c) w := by
  simp [Instr.field, asAgg, go_sem]
end Go.Proofs.YteempfbcjlbcnaaDoor
