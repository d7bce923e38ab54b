/- The first one of the least number: the program's and the model's. For every list of Cans; nothing that was there is written. -/
import Derived.Test.YtmfnbbjhaolhgaaCans
import Derived.Laws.StructEq
import Derived.BigQuiet
namespace Go.Proofs.Ytmfnbbjhaolhgaa
open Go.RowKit
set_option linter.unusedVariables false

/-- The place of the first one of the least number among the first n + 1. -/
def best (l : List (Int × ByteArray)) : Nat → Nat
  | 0 => 0
  | n + 1 => if (canAt l (n + 1)).1 < (canAt l (best l n)).1 then n + 1 else best l n
theorem best_le (l : List (Int × ByteArray)) (n : Nat) : best l n ≤ n := by
  induction n with
  | zero => exact Nat.le_refl _
  | succ n ih =>
    unfold best
    split <;> omega
theorem best_least (l : List (Int × ByteArray)) (n : Nat) : ∀ j, j ≤ n → (canAt l (best l n)).1 ≤ (canAt l j).1 := by
  induction n with
  | zero =>
    intro j hj
    obtain rfl : j = 0 := by omega
    exact Int.le_refl _
  | succ n ih =>
    intro j hj
    unfold best
    split
    · rcases Nat.lt_or_ge j (n + 1) with h | h
      · have := ih j (by omega)
        omega
      · obtain rfl : j = n + 1 := by omega
        exact Int.le_refl _
    · rcases Nat.lt_or_ge j (n + 1) with h | h
      · exact ih j (by omega)
      · obtain rfl : j = n + 1 := by omega
        omega
theorem best_first (l : List (Int × ByteArray)) (n : Nat) : ∀ j, j < best l n → (canAt l (best l n)).1 < (canAt l j).1 := by
  induction n with
  | zero =>
    intro j hj
    exact absurd hj (by simp [best])
  | succ n ih =>
    intro j hj
    unfold best at hj ⊢
    split at hj
    · rename_i h
      rw [if_pos h]
      have := best_least l n j (by omega)
      omega
    · rename_i h
      rw [if_neg h]
      exact ih j hj
/-- What First answers. -/
def firstI (l : List (Int × ByteArray)) : Int := if l.length = 0 ∨ 400 < l.length ∨ allB l = false then -1 else (best l (l.length - 1) : Int)
theorem firstI_ok {l : List (Int × ByteArray)} (h1 : 0 < l.length) (h2 : l.length ≤ 400) (h3 : allB l = true) : firstI l = (best l (l.length - 1) : Int) := by
  unfold firstI
  exact if_neg (by rintro (h | h | h) <;> first | omega | (rw [h3] at h; cases h))
theorem firstI_no {l : List (Int × ByteArray)} (h : l.length = 0 ∨ 400 < l.length ∨ allB l = false) : firstI l = -1 := if_pos h

theorem below_drewN {B : Nat} {a w : World} (h : Below B a w) (n : Nat) : Below B a (w.drewN n) := ⟨h.os, h.tape, h.output, h.size, h.block⟩

set_option maxHeartbeats 1000000 in
theorem l02First_any (b o cap : Nat) (l : List (Int × ByteArray)) (w : World) (hc : ∀ (i : Nat) x, l[i]? = some x → w.cell? ⟨b, o + i * 2, none⟩ = some (.int .i64 x.1) ∧ w.cell? ⟨b, o + i * 2 + 1, none⟩ = some (.string x.2)) (h0 : 0 < l.length) (hlen : l.length ≤ 400) :
    Calls Try.prog 67 #[.slice (some ⟨b, o, none⟩) l.length cap] w fun e w' => e = .returned (.int .i64 (best l (l.length - 1) : Int)) ∧ Below w.heap.size w w' := by
  have HI := Lib.hid hc
  clear hc
  obtain ⟨N, hN⟩ : ∃ N, l.length = N := ⟨_, rfl⟩
  have HN := Lib.hid hN
  rw [hN] at hlen h0 ⊢
  clear hN
  go_enter Try.func67, Try.ntmps67
  go_wp2
  go_loopw [3, 4] (fun u i wr => ∃ k j : Nat, i = .int .i64 (k : Int) ∧ u = .int .i64 (j : Int) ∧ 1 ≤ k ∧ k ≤ N ∧ j < k ∧ best l (k - 1) = j ∧ Below w.heap.size w wr ∧ (∀ p, wr.cell? p = w.cell? p)) (fun _ i _ => N - (intOf i).toNat)
  case atStart => exact ⟨1, 0, rfl, rfl, by omega, by omega, by omega, rfl, Below.refl _ _, fun _ => rfl⟩
  case round =>
    obtain ⟨k, j, rfl, rfl, hk1, hk, hj, hbest, hb, hsame⟩ := hrel
    have HB := Lib.hid hbest
    have HA := Lib.hid hsame
    clear hbest
    by_cases hkn : k < N
    · have hkl : k < l.length := by have := HN.out; omega
      have d0 := (hsame _).trans (HI.out k _ (canAt_some hkl)).1
      have d1 := (hsame _).trans (HI.out j _ (canAt_some (by omega))).1
      have HT : Hid (best l k = if (canAt l k).1 < (canAt l j).1 then k else j) := Lib.hid (by
        rw [← HB.out]
        obtain ⟨k', rfl⟩ : ∃ k', k = k' + 1 := ⟨k - 1, by omega⟩
        rfl)
      have hi1 : (0 : Int) ≤ (k : Int) := by omega
      have hi2 : (k : Int) < (N : Int) := by omega
      have hi3 : (j : Int) < (N : Int) := by omega
      generalize (canAt l k).1 = x at *
      generalize (canAt l j).1 = y at *
      by_cases hxy : x < y
      · have hd : decide (x < y) = true := decide_eq_true hxy
        have HO := Lib.hid (HT.out.trans (if_pos hxy))
        clear HT hsame
        go_wp2_with fail
        go_quiet (fail)
        go_wp2
        go_roundw
        case rel => exact ⟨k + 1, k, by go_num, rfl, by omega, by omega, by omega, HO.out, below_drewN hb _, HA.out⟩
        case measure => simp [intOf]; omega
      · have hd : decide (x < y) = false := decide_eq_false hxy
        have HO := Lib.hid (HT.out.trans (if_neg hxy))
        clear HT hsame
        go_wp2_with fail
        go_quiet (fail)
        go_wp2
        go_roundw
        case rel => exact ⟨k + 1, j, by go_num, rfl, by omega, by omega, by omega, HO.out, below_drewN hb _, HA.out⟩
        case measure => simp [intOf]; omega
    · have hge : N ≤ k := by omega
      have HO : Hid (best l (N - 1) = j) := Lib.hid (by rw [← HB.out, show k = N by omega])
      clear hkn hsame
      go_wp2
      go_ret
      exact ⟨by rw [HO.out]; rfl, hb⟩

set_option maxHeartbeats 2000000 in
theorem leastOf_any (b o cap : Nat) (l : List (Int × ByteArray)) (w : World) (hlt : b < w.heap.size) (hc : ∀ (i : Nat) x, l[i]? = some x → w.cell? ⟨b, o + i * 2, none⟩ = some (.int .i64 x.1) ∧ w.cell? ⟨b, o + i * 2 + 1, none⟩ = some (.string x.2)) (h0 : 0 < l.length) (hlen : l.length ≤ 400) :
    Calls Try.prog 64 #[.slice (some ⟨b, o, none⟩) l.length cap] w fun e w' => e = .returned (.agg #[.int .i64 (canAt l (best l (l.length - 1))).1, .string (canAt l (best l (l.length - 1))).2]) ∧ Below w.heap.size w w' := by
  have HI := Lib.hid hc
  have e0 := (hc 0 _ (canAt_some h0)).1
  have e1 := (hc 0 _ (canAt_some h0)).2
  clear hc
  obtain ⟨N, hN⟩ : ∃ N, l.length = N := ⟨_, rfl⟩
  have HN := Lib.hid hN
  rw [hN] at hlen h0 ⊢
  clear hN
  simp only [Nat.zero_mul, Nat.add_zero] at e0 e1
  have HZ0 : Hid (canAt l 0 = canAt l 0) := Lib.hid rfl
  obtain ⟨p, hp⟩ : ∃ p, canAt l 0 = p := ⟨_, rfl⟩
  rw [hp] at e0 e1
  have HP := Lib.hid hp
  clear hp HZ0
  go_enter Try.func64, Try.ntmps64
  go_wp2
  go_loopw [5, 11] (fun _ i wr => ∃ k m : Nat, i = .int .i64 (k : Int) ∧ k ≤ N ∧ m < N ∧ best l (k - 1) = m ∧ Below w.heap.size w wr ∧ w.heap.size + 1 < wr.heap.size ∧
    (wr.cell? ⟨w.heap.size, 0, none⟩ = some (.int .i64 0) ∧ wr.cell? ⟨w.heap.size, 1, none⟩ = some (.string ⟨#[]⟩) ∧ wr.frozen? ⟨w.heap.size, 0, none⟩ = false ∧ wr.frozen? ⟨w.heap.size, 1, none⟩ = false) ∧
    (wr.cell? ⟨w.heap.size + 1, 0, none⟩ = some (.int .i64 (canAt l m).1) ∧ wr.cell? ⟨w.heap.size + 1, 1, none⟩ = some (.string (canAt l m).2) ∧ wr.frozen? ⟨w.heap.size + 1, 0, none⟩ = false ∧ wr.frozen? ⟨w.heap.size + 1, 1, none⟩ = false)) (fun _ i _ => N - (intOf i).toNat)
  case atStart => exact ⟨0, 0, rfl, by omega, h0, rfl, ((Below.refl _ _).alloc (Nat.le_refl _) _).alloc (by simp) _, by simp, ⟨by simp [go_sem], by simp [go_sem], by simp [go_sem], by simp [go_sem]⟩, ⟨by rw [HP.out]; simp [go_sem], by rw [HP.out]; simp [go_sem], by simp [go_sem], by simp [go_sem]⟩⟩
  case round =>
    obtain ⟨k, m, rfl, hk, hm, hbest, hb, hsz, ⟨r0, r1, r2, r3⟩, ⟨q0, q1, q2, q3⟩⟩ := hrel
    have HB := Lib.hid hbest
    clear hbest
    by_cases hkn : k < N
    · have hkl : k < l.length := by have := HN.out; omega
      have d0 := (hb.cell (p := ⟨b, _, none⟩) hlt).trans (HI.out k _ (canAt_some hkl)).1
      have d1 := (hb.cell (p := ⟨b, _, none⟩) hlt).trans (HI.out k _ (canAt_some hkl)).2
      have HT : Hid (best l k = if (canAt l k).1 < (canAt l m).1 then k else m) := Lib.hid (by
        rcases k with _ | k'
        · have : m = 0 := HB.out.symm
          subst this
          simp [best]
        · rw [← HB.out]
          rfl)
      have hbw : b < wr.heap.size := by omega
      obtain ⟨x, hx⟩ : ∃ x, canAt l k = x := ⟨_, rfl⟩
      obtain ⟨y, hy⟩ : ∃ y, canAt l m = y := ⟨_, rfl⟩
      rw [hx] at d0 d1 HT
      rw [hy] at q0 q1 HT
      have HX := Lib.hid hx
      have HY := Lib.hid hy
      clear hx hy
      obtain ⟨x0, x1⟩ := x
      obtain ⟨y0, y1⟩ := y
      simp only at d0 d1 q0 q1
      by_cases hxy : x0 < y0
      · have hd : decide (x0 < y0) = true := decide_eq_true hxy
        have HO := Lib.hid (HT.out.trans (if_pos hxy))
        clear HT
        go_wp2
        go_roundw
        case rel =>
          have hz0 : w.heap.size < wr.heap.size := by omega
          refine ⟨k + 1, k, by go_num, by omega, by omega, HO.out, ((hb.setCell (by simp) _).setCell (by simp) _).alloc (by simp; omega) _, by simp; omega, ⟨?_, ?_, ?_, ?_⟩, ⟨?_, ?_, ?_, ?_⟩⟩
          · simp [go_sem, hz0, r0]
          · simp [go_sem, hz0, r1]
          · simp [go_sem, hz0, r2]
          · simp [go_sem, hz0, r3]
          · rw [HX.out]; simp [go_sem, hsz, q0]
          · rw [HX.out]; simp [go_sem, hsz, q1]
          · simp [go_sem, hsz, q2]
          · simp [go_sem, hsz, q3]
        case measure => simp [intOf]; omega
      · have hd : decide (x0 < y0) = false := decide_eq_false hxy
        have HO := Lib.hid (HT.out.trans (if_neg hxy))
        clear HT
        go_wp2
        go_roundw
        case rel =>
          have hz0 : w.heap.size < wr.heap.size := by omega
          refine ⟨k + 1, m, by go_num, by omega, hm, HO.out, hb.alloc (by omega) _, by simp; omega, ⟨?_, ?_, ?_, ?_⟩, ⟨?_, ?_, ?_, ?_⟩⟩
          · simp [go_sem, hz0, r0]
          · simp [go_sem, hz0, r1]
          · simp [go_sem, hz0, r2]
          · simp [go_sem, hz0, r3]
          · rw [HY.out]; simp [go_sem, hsz, q0]
          · rw [HY.out]; simp [go_sem, hsz, q1]
          · simp [go_sem, hsz, q2]
          · simp [go_sem, hsz, q3]
        case measure => simp [intOf]; omega
    · have hge : N ≤ k := by omega
      have HO : Hid (best l (N - 1) = m) := Lib.hid (by rw [← HB.out, show k = N by omega])
      clear hkn
      obtain ⟨y, hy⟩ : ∃ y, canAt l m = y := ⟨_, rfl⟩
      rw [hy] at q0 q1
      have HY := Lib.hid hy
      clear hy
      obtain ⟨y0, y1⟩ := y
      simp only at q0 q1
      go_wp2
      exact bodyPost_ret (v := .agg #[.int .i64 y0, .string y1]) (by simp [results, Try.results64, go_sem, r0, r1]) rfl
        ⟨by rw [HO.out, HY.out], (hb.setCell (by simp) _).setCell (by simp) _⟩

set_option maxHeartbeats 2000000 in
theorem implFirst_any (a : Option Addr) (cap : Nat) (l : List (Int × ByteArray)) (w : World) (h : CansIn w a l) (hok : CansOk l) (hlen : l.length ≤ 1048576) :
    Calls Try.prog 42 #[.slice a l.length cap] w fun e w' => e = .returned (.int .i64 (firstI l)) ∧ Below w.heap.size w w' := by
  by_cases h0 : l.length = 0
  · have HO := Lib.hid (firstI_no (l := l) (.inl h0))
    have hd : ((l.length : Int) == 0) = true := beq_iff_eq.2 (by omega)
    go_enter Try.func42, Try.ntmps42
    go_wp2_with fail
    go_ret
    exact ⟨by rw [HO.out]; rfl, Below.refl _ _⟩
  have hd : ((l.length : Int) == 0) = false := beq_eq_false_iff_ne.2 (by omega)
  by_cases h4 : 400 < l.length
  · have HO := Lib.hid (firstI_no (l := l) (.inr (.inl h4)))
    have hd2 : decide (400 < (l.length : Int)) = true := decide_eq_true (by omega)
    go_enter Try.func42, Try.ntmps42
    go_wp2_with fail
    go_ret
    exact ⟨by rw [HO.out]; rfl, Below.refl _ _⟩
  have hd2 : decide (400 < (l.length : Int)) = false := decide_eq_false (by omega)
  have HA := Lib.hid (implAllRight_any a cap l w h hok hlen)
  rcases ha : allB l
  · rw [ha] at HA
    have HO := Lib.hid (firstI_no (l := l) (.inr (.inr ha)))
    go_enter Try.func42, Try.ntmps42
    go_wp2_with (go_at_call 54; refine HA.out.mono ?_; rintro e w1 ⟨rfl, h1⟩)
    go_ret
    exact ⟨by rw [HO.out]; rfl, h1⟩
  · rw [ha] at HA
    have HO := Lib.hid (firstI_ok (l := l) (by omega) (by omega) ha)
    rcases h with rfl | ⟨b, o, rfl, hlt, hc⟩
    · exact absurd rfl h0
    have HI := Lib.hid hc
    clear hc ha
    obtain ⟨N, hN⟩ : ∃ N, l.length = N := ⟨_, rfl⟩
    have HN := Lib.hid hN
    have HL : ∀ W, Below w.heap.size w W → Hid (Calls Try.prog 64 #[.slice (some ⟨b, o, none⟩) l.length cap] W fun e w' => e = .returned (.agg #[.int .i64 (canAt l (best l (l.length - 1))).1, .string (canAt l (best l (l.length - 1))).2]) ∧ Below W.heap.size W w') := fun W h1 =>
      leastOf_any b o cap l W (Nat.lt_of_lt_of_le hlt h1.size) (fun i x hx => ⟨(h1.cell (p := ⟨b, _, none⟩) hlt).trans (HI.out i x hx).1, (h1.cell (p := ⟨b, _, none⟩) hlt).trans (HI.out i x hx).2⟩) (by omega) (by omega)
    have hbl := best_le l (l.length - 1)
    have HF := Lib.hid (best_first l (l.length - 1))
    rw [hN] at HA HL HF hbl HO h0 h4 hd hd2 hlen ⊢
    clear hN
    obtain ⟨m, hm⟩ : ∃ m, best l (N - 1) = m := ⟨_, rfl⟩
    rw [hm] at HL HF hbl HO
    clear hm
    obtain ⟨y, hy⟩ : ∃ y, canAt l m = y := ⟨_, rfl⟩
    have HY := Lib.hid hy
    rw [hy] at HL HF
    clear hy
    obtain ⟨y0, y1⟩ := y
    simp only at HL HF
    have hmN : m < N := by omega
    go_enter Try.func42, Try.ntmps42
    go_wp2_with (first
      | (go_at_call 54; refine HA.out.mono ?_; rintro e w1 ⟨rfl, h1⟩)
      | (go_at_call 64; refine (HL _ h1).out.mono ?_; rintro e w2 ⟨rfl, h2⟩))
    have b2 : Below w.heap.size w w2 := h1.trans (h2.mono h1.size)
    have bz := b2.size
    go_loopw [4, 5, 23] (fun _ _ i wr => ∃ k : Nat, i = .int .i64 (k : Int) ∧ k ≤ m ∧ Below w.heap.size w wr ∧ w2.heap.size < wr.heap.size ∧ wr.cell? ⟨w2.heap.size, 0, none⟩ = some (.int .i64 y0) ∧ wr.cell? ⟨w2.heap.size, 1, none⟩ = some (.string y1)) (fun _ _ i _ => N - (intOf i).toNat)
    case atStart => exact ⟨0, rfl, by omega, b2.alloc b2.size _, by simp, by simp, by simp⟩
    case round =>
      obtain ⟨k, rfl, hk, hb, hsz, q0, q1⟩ := hrel
      have hkl : k < l.length := by have := HN.out; omega
      have hkn : k < N := by omega
      have d0 := (hb.cell (p := ⟨b, _, none⟩) hlt).trans (HI.out k _ (canAt_some hkl)).1
      have d1 := (hb.cell (p := ⟨b, _, none⟩) hlt).trans (HI.out k _ (canAt_some hkl)).2
      have hbw : b < wr.heap.size := by omega
      by_cases hkm : k < m
      · have hx := HF.out k hkm
        generalize canAt l k = x at *
        obtain ⟨x0, x1⟩ := x
        simp only at d0 d1 hx
        have e1 : (x0 == y0) = false := beq_eq_false_iff_ne.2 (by omega)
        have e2 : decide (x0 = y0) = false := decide_eq_false (by omega)
        clear hx
        go_wp2
        go_roundw
        case rel => exact ⟨k + 1, by go_num, by omega, hb.alloc (by omega) _, by simp; omega, by simp [go_sem, hsz, q0], by simp [go_sem, hsz, q1]⟩
        case measure => simp [intOf]; omega
      · obtain rfl : k = m := by omega
        rw [HY.out] at d0 d1
        simp only at d0 d1
        go_wp2
        go_ret
        exact ⟨by rw [HO.out]; rfl, hb.alloc (by omega) _⟩
end Go.Proofs.Ytmfnbbjhaolhgaa
