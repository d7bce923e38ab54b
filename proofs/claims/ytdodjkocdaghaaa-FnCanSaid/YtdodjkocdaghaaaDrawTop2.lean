/- The drawn inputs of the frames' law: a group, an Id, a number, a Can, a text, a list of Cans. For every code; nothing that was there is written. -/
import Derived.Test.YtdodjkocdaghaaaDrawList
import Derived.Test.YtdodjkocdaghaaaSpoil
namespace Go.Proofs.Ytdodjkocdaghaaa
open Go.RowKit
set_option linter.unusedVariables false
section
variable {a : Option Addr} {len cap : Nat} {zs : List Int} {w : World}
theorem World.size_alloc' (w : World) (o : Obj) : (w.alloc o).heap.size = w.heap.size + 1 := by simp
theorem drawBroad_any (hr : RowIn w a len zs) (hlen : len ≤ 1048576) (hba : 0 < len → ∀ b o, a = some ⟨b, o, none⟩ → b < w.heap.size) :
    Calls Try.prog 22 #[.slice a len cap] w fun e w' => ∃ v : Int, e = .returned (.int .i64 v) ∧ -1 ≤ v ∧ v ≤ 131072 ∧ Below w.heap.size w w' := by
  go_enter Try.func22, Try.ntmps22
  go_wp2_with fail
  refine (source_next hr hlen hba).mono ?_
  rintro e u ⟨rfl, hD⟩
  go_wp2_with fail
  refine (pgn_next hD).mono ?_
  rintro e u1 ⟨v, rfl, v0, v1, hD1, _⟩
  go_wp2
  go_ret
  exact ⟨v, rfl, v0, v1, hD1.below⟩
set_option maxHeartbeats 500000 in
theorem drawIdNum_any (hr : RowIn w a len zs) (hlen : len ≤ 1048576) (hba : 0 < len → ∀ b o, a = some ⟨b, o, none⟩ → b < w.heap.size) :
    Calls Try.prog 12 #[.slice a len cap] w fun e w' => ∃ p b d s : Int, e = .returned (.agg #[.int .i64 p, .int .i64 b, .int .i64 d, .int .i64 s]) ∧ (-1 ≤ p ∧ p ≤ 8) ∧ (-1 ≤ b ∧ b ≤ 131072) ∧ (-1 ≤ d ∧ d ≤ 256) ∧ (-1 ≤ s ∧ s ≤ 256) ∧ Below w.heap.size w w' := by
  have b0 : Below w.heap.size w (w.alloc (.cells #[.int .i64 0, .int .i64 0, .int .i64 0, .int .i64 0] 24)) := (Below.refl _ _).alloc (Nat.le_refl _) _
  have IR0 := IdAt.new w 0 0 0 0 24
  go_enter Try.func12, Try.ntmps12
  go_wp2_with fail
  refine (source_next (hr.kept b0 hba) hlen (fun p b o e => Nat.lt_of_lt_of_le (hba p b o e) b0.size)).mono ?_
  rintro e u ⟨rfl, hD⟩
  rw [World.size_alloc'] at hD
  go_wp2_with fail
  refine (id_next hD).mono ?_
  rintro e u1 ⟨p, b, d, s, rfl, hp, hb, hd, hs, hD1, _⟩
  have hB := hD1.below
  obtain ⟨c1, f1⟩ := bcell hB
  have k0 : ∀ j, j < 4 → (u1.cell? ⟨w.heap.size, j, none⟩).isSome = true := by
    intro j hj
    rw [c1 _ _ (by simp)]
    simp
    omega
  go_wp2
  exact bodyPost_ret (v := .agg #[.int .i64 p, .int .i64 b, .int .i64 d, .int .i64 s]) (by simp [results, Try.results12, go_sem, k0]) rfl
    ⟨_, _, _, _, rfl, hp, hb, hd, hs, ((((b0.trans (hB.mono (by simp))).setCell (by simp) _).setCell (by simp) _).setCell (by simp) _).setCell (by simp) _⟩
set_option maxHeartbeats 500000 in
theorem drawCan_any (hr : RowIn w a len zs) (hlen : len ≤ 1048576) (hba : 0 < len → ∀ b o, a = some ⟨b, o, none⟩ → b < w.heap.size) :
    Calls Try.prog 16 #[.slice a len cap] w fun e w' => ∃ n : Int, ∃ s : ByteArray, e = .returned (.agg #[.int .i64 n, .string s]) ∧ (-1 ≤ n ∧ n ≤ 536870912) ∧ s.size ≤ 9 ∧ Below w.heap.size w w' := by
  have b0 : Below w.heap.size w (w.alloc (.cells #[.int .i64 0, .string ⟨#[]⟩] 32)) := (Below.refl _ _).alloc (Nat.le_refl _) _
  go_enter Try.func16, Try.ntmps16
  go_wp2_with fail
  refine (source_next (hr.kept b0 hba) hlen (fun p b o e => Nat.lt_of_lt_of_le (hba p b o e) b0.size)).mono ?_
  rintro e u ⟨rfl, hD⟩
  rw [World.size_alloc'] at hD
  go_wp2_with fail
  refine (can_next hD).mono ?_
  rintro e u1 ⟨n, s, rfl, hn, hs, hD1, _⟩
  have hB := hD1.below
  obtain ⟨c1, f1⟩ := bcell hB
  have k0 : ∀ j, j < 2 → (u1.cell? ⟨w.heap.size, j, none⟩).isSome = true := by
    intro j hj
    rw [c1 _ _ (by simp)]
    simp
    omega
  go_wp2
  exact bodyPost_ret (v := .agg #[.int .i64 n, .string s]) (by simp [results, Try.results16, go_sem, k0]) rfl
    ⟨_, _, rfl, hn, hs, ((b0.trans (hB.mono (by simp))).setCell (by simp) _).setCell (by simp) _⟩
theorem drawFirst_any (hr : RowIn w a len zs) (hlen : len ≤ 1048576) (hba : 0 < len → ∀ b o, a = some ⟨b, o, none⟩ → b < w.heap.size) :
    Calls Try.prog 20 #[.slice a len cap] w fun e w' => ∃ (a' : Option Addr) (cap' : Nat) (l : List (Int × ByteArray)), e = .returned (.slice a' l.length cap') ∧ CansIn w' a' l ∧ CansOk l ∧ l.length ≤ 4 ∧ Below w.heap.size w w' := by
  go_enter Try.func20, Try.ntmps20
  go_wp2_with fail
  refine (source_next hr hlen hba).mono ?_
  rintro e u ⟨rfl, hD⟩
  go_wp2_with fail
  refine (cans_next hD).mono ?_
  rintro e u1 ⟨a', cap', l, rfl, hin, hok, h4, hD1, _⟩
  go_wp2
  go_ret
  exact ⟨a', cap', l, rfl, hin, hok, h4, hD1.below⟩
theorem idof_picks : ∀ x ∈ ([-1, 0, 536870911, 536870912, 33554432] : List Int), -1 ≤ x ∧ x ≤ 536870912 := by decide
set_option maxHeartbeats 500000 in
theorem drawIdOf_any (hr : RowIn w a len zs) (hlen : len ≤ 1048576) (hba : 0 < len → ∀ b o, a = some ⟨b, o, none⟩ → b < w.heap.size) :
    Calls Try.prog 13 #[.slice a len cap] w fun e w' => ∃ v : Int, e = .returned (.int .i64 v) ∧ -1 ≤ v ∧ v ≤ 600000000 ∧ Below w.heap.size w w' := by
  go_enter Try.func13, Try.ntmps13
  go_wp2_with fail
  refine (source_next hr hlen hba).mono ?_
  rintro e u ⟨rfl, hD⟩
  go_wp2_with fail
  refine (id_next hD).mono ?_
  rintro e u1 ⟨p, b, d, s, rfl, _, _, _, _, hD1, _⟩
  go_wp2_with fail
  refine (specIdNum_any p b d s _).mono ?_
  rintro e u2 ⟨rfl, hb2⟩
  have hn0 := idN_lo p b d s
  have hn1 := idN_hi p b d s
  generalize idN p b d s = n at *
  have hD2 := hD1.made hb2
  clear hD hD1 hb2
  go_wp2_with fail
  refine (n_next hD2 4 (by omega)).mono ?_
  rintro e u3 ⟨k, rfl, k0, km, hD3, _⟩
  have hS := hD3.src.lt
  rcases (show k = 0 ∨ k = 1 ∨ (2 ≤ k) by omega) with rfl | rfl | hk
  · go_wp2_with fail
    refine (n_next hD3 9 (by omega)).mono ?_
    rintro e u4 ⟨v, rfl, v0, vm, hD4, _⟩
    have hv : v < 9 := by omega
    clear vm
    go_wp2
    go_ret
    exact ⟨n + 256 * v, rfl, by omega, by omega, hD4.below⟩
  · go_wp2_with fail
    refine (n_next (hD3.alloc _) 5 (by omega)).mono ?_
    rintro e u4 ⟨v, rfl, v0, vm, hD4, g4⟩
    obtain ⟨x, hx, hm⟩ := pick_cell [-1, 0, 536870911, 536870912, 33554432] hS g4 v.toNat (by simp; omega)
    have hb := idof_picks x hm
    have hv : v < 5 := by omega
    clear hm vm
    go_wp2
    go_ret
    exact ⟨x, rfl, hb.1, by omega, hD4.below⟩
  · have e0 : (k == 0) = false := beq_eq_false_iff_ne.2 (by omega)
    have e1 : (k == 1) = false := beq_eq_false_iff_ne.2 (by omega)
    clear km
    go_wp2
    go_ret
    exact ⟨n, rfl, hn0, by omega, hD3.below⟩
theorem canBytes_size (n : Int) (s : ByteArray) : (ByteArray.mk (canBytesB n s).toArray).size ≤ 13 := by
  unfold canBytesB
  split
  · rename_i h
    have := (canB_of h).2
    have e : s.data.toList.length = s.size := by rw [Array.length_toList]; rfl
    show (headB n s.size ++ s.data.toList).toArray.size ≤ 13
    rw [List.size_toArray, List.length_append, e, show (headB n s.size).length = 5 from rfl]
    omega
  · simp [ByteArray.size]
set_option maxHeartbeats 500000 in
theorem drawCanRead_any (hr : RowIn w a len zs) (hlen : len ≤ 1048576) (hba : 0 < len → ∀ b o, a = some ⟨b, o, none⟩ → b < w.heap.size) :
    Calls Try.prog 18 #[.slice a len cap] w fun e w' => ∃ t : ByteArray, e = .returned (.string t) ∧ t.size ≤ 14 ∧ Below w.heap.size w w' := by
  go_enter Try.func18, Try.ntmps18
  go_wp2_with fail
  refine (source_next hr hlen hba).mono ?_
  rintro e u ⟨rfl, hD⟩
  go_wp2_with fail
  refine (can_next hD).mono ?_
  rintro e u1 ⟨n, s, rfl, hn, hs, hD1, _⟩
  go_wp2_with fail
  refine (specCanBytes_any n s _ (by omega) (by omega) (by unfold maxLen; omega)).mono ?_
  rintro e u2 ⟨rfl, hb2⟩
  have hsz := canBytes_size n s
  generalize ByteArray.mk (canBytesB n s).toArray = t at *
  have hD2 := hD1.made hb2
  clear hD hD1 hb2
  go_wp2_with fail
  refine (n_next hD2 4 (by omega)).mono ?_
  rintro e u3 ⟨k, rfl, k0, km, hD3, _⟩
  rcases (show k = 0 ∨ k = 1 ∨ (2 ≤ k) by omega) with rfl | rfl | hk
  · go_wp2_with fail
    refine (spoil_next hD3 t (by omega)).mono ?_
    rintro e u4 ⟨x, rfl, hx, hD4, _⟩
    go_wp2
    go_ret
    exact ⟨x, rfl, by omega, hD4.below⟩
  · have hw1 : IntKind.i64.wrap ((t.size : Int) + 1) = t.size + 1 := IntWalk.i64_in _ (by omega)
    go_wp2_with fail
    refine (n_next hD3 ((t.size : Int) + 1) (by omega)).mono ?_
    rintro e u4 ⟨v, rfl, v0, vm, hD4, _⟩
    have hv : v ≤ (t.size : Int) := by omega
    clear vm
    obtain ⟨q, rfl⟩ := Int.eq_ofNat_of_zero_le v0
    go_wp2
    go_ret
    exact ⟨t.extract 0 q, rfl, by simp; omega, hD4.below⟩
  · have e0 : (k == 0) = false := beq_eq_false_iff_ne.2 (by omega)
    have e1 : (k == 1) = false := beq_eq_false_iff_ne.2 (by omega)
    clear km
    go_wp2
    go_ret
    exact ⟨t, rfl, by omega, hD3.below⟩
end
end Go.Proofs.Ytdodjkocdaghaaa
