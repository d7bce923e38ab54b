/- A text's bits got: the program's and the model's. Nothing that was there is written. -/
import Derived.Test.YtanijfmfjabmfaaBitsStraight
import Derived.Deep.QuietTactic
import Derived.BigQuiet
namespace Go.Proofs.Ytanijfmfjabmfaa
open Go.RowKit
set_option linter.unusedVariables false

/-- A bit of a text, as the program reckons it. -/
theorem bitI (s : ByteArray) (i : Nat) (h : i < 8 * s.size) : bits .and .i64 (byteAt s (i / 8) / 2 ^ (i % 8)) 1 = ((bitL s.data.toList i : Nat) : Int) := by
  have e : byteAt s (i / 8) = (((s.data.toList[i / 8]?.getD 0).toNat : Nat) : Int) := by
    have h8 : i / 8 < s.size := by omega
    rw [← byteAt_get s (i / 8) h8]
    have : s.data.toList[i / 8]? = some s[i / 8] := by
      rw [List.getElem?_eq_getElem (by simpa using h8)]
      rfl
    rw [this]
    rfl
  have hk : 0 ≤ byteAt s (i / 8) / 2 ^ (i % 8) := Int.ediv_nonneg (byteAt_lo _ _) (Int.pow_nonneg (by decide))
  have hk2 : byteAt s (i / 8) / 2 ^ (i % 8) ≤ 255 := Int.le_trans (Int.ediv_le_self _ (byteAt_lo _ _)) (byteAt_hi _ _)
  have hm := i64_mask (byteAt s (i / 8) / 2 ^ (i % 8)) 1 (by decide) (by omega) (by omega)
  rw [show ((2 : Int) ^ 1 - 1) = 1 by decide] at hm
  rw [hm, e]
  unfold bitL
  simp

set_option maxRecDepth 100000 in
set_option maxHeartbeats 1000000 in
theorem bitsOf1_any (R : Nat) (s : ByteArray) (i : Nat) (W : World) (hR : W.heap[R]? = some (.cells #[.string s] 9 (0, 0))) (hs : s.size ≤ 8000) (hi : i < 8 * s.size) :
    Calls Try.prog 213 #[.int .i64 (i : Int), .pointer (some ⟨R, 0, none⟩)] W fun e W' => e = .returned (.int .i64 ((bitL s.data.toList i : Nat) : Int)) ∧ W = W' := by
  have c0 : W.cell? ⟨R, 0, none⟩ = some (.string s) := (cell_of_row W R 0 _ _ (0, 0) hR).trans rfl
  have HO := Lib.hid (bitI s i hi)
  have h8 : i / 8 < s.size := by omega
  have q0 : (0 : Int) ≤ ((i / 8 : Nat) : Int) := by omega
  have q1 : ((i / 8 : Nat) : Int) < (s.size : Int) := by omega
  have d1 : ((i : Nat) : Int).tdiv 8 = ((i / 8 : Nat) : Int) := by
    rw [Int.tdiv_eq_ediv_of_nonneg (by omega)]; omega
  have d2 : ((i : Nat) : Int).tmod 8 = ((i % 8 : Nat) : Int) := by
    rw [Int.tmod_eq_emod_of_nonneg (by omega)]; omega
  have d3 : min (i % 8) 64 = i % 8 := by omega
  have hw : wrap64 (((s[i / 8]'h8).toNat : Nat) : Int) = byteAt s (i / 8) := by
    rw [byteAt_get s (i / 8) h8]
    have := byteAt_lo s (i / 8)
    have := byteAt_hi s (i / 8)
    exact IntWalk.wrap64_in _ (by omega)
  clear hR
  go_enter Try.func213, Try.ntmps213
  go_wp2
  go_ret
  exact ⟨by rw [← HO.out]; rfl, rfl⟩

theorem bitL_at (s : ByteArray) {i : Nat} (h : i / 8 < s.size) : ((bitL s.data.toList i : Nat) : Int) = ((s[i / 8]'h).toNat : Int) / ((2 ^ (i % 8) : Nat) : Int) % 2 := by
  have : s.data.toList[i / 8]? = some s[i / 8] := by
    rw [List.getElem?_eq_getElem (by simpa using h)]
    rfl
  unfold bitL
  rw [this]
  simp
set_option maxRecDepth 100000 in
set_option maxHeartbeats 2000000 in
theorem l07Get_any (s : ByteArray) (a w : Nat) (W : World) (hs : s.size ≤ 8000) (ha : a ≤ 1800) (hw : 1 ≤ w) (hw2 : w ≤ 32) (hin : a + w ≤ 8 * s.size) :
    Calls Try.prog 179 #[.string s, .int .i64 (a : Int), .int .i64 (w : Int)] W fun e W' => e = .returned (.int .i64 ((numOf (bitL s.data.toList) a w : Nat) : Int)) ∧ Below W.heap.size W W' := by
  obtain ⟨f, hf⟩ : ∃ f, bitL s.data.toList = f := ⟨_, rfl⟩
  have HF := Lib.hid hf
  have hlt : ∀ i, f i < 2 := fun i => by rw [← hf]; exact bitL_lt _ _
  rw [hf]
  clear hf
  have HLT := Lib.hid hlt
  clear hlt
  have h32 : 2 ^ w ≤ 4294967296 := pow_le32 hw2
  have HIN := Lib.hid hin
  go_enter Try.func179, Try.ntmps179
  go_wp2_with fail
  go_loopw [7, 8, 9] (fun n j _ wr => ∃ k m : Nat, j = .int .i64 ((k : Int) - 1) ∧ n = .int .i64 (m : Int) ∧ k ≤ w ∧ m = numOf f (a + k) (w - k) ∧ Below W.heap.size W wr) (fun _ j _ _ => (intOf j + 1).toNat)
  case atStart => exact ⟨w, 0, by go_num, rfl, Nat.le_refl _, by rw [Nat.sub_self]; rfl, Below.refl _ _⟩
  case round =>
    obtain ⟨k, m, rfl, rfl, hk, hm, hb0⟩ := hrel
    have HM := Lib.hid hm
    have HB0 := Lib.hid hb0
    rcases k with _ | k
    · have e : m = numOf f a w := by rw [hm]; simp
      clear hm
      subst e
      go_wp2
      go_ret
      exact ⟨rfl, hb0⟩
    · have hb : m < 2 ^ w := by
        rw [hm]
        exact Nat.lt_of_lt_of_le (numOf_lt HLT.out _ _) (Nat.pow_le_pow_right (by decide) (by omega))
      have hm2 : m < 4294967296 := by omega
      clear hm hb hb0
      have h8 : (a + k) / 8 < s.size := by omega
      have e1 : (((k + 1 : Nat) : Int) - 1) = (k : Int) := by omega
      rw [e1]
      have e2 : (a : Int) + (k : Int) = ((a + k : Nat) : Int) := by omega
      obtain ⟨i, hi⟩ : ∃ i, a + k = i := ⟨_, rfl⟩
      have hk0 : (0 : Int) ≤ (k : Int) := by omega
      rw [hi] at e2 h8
      have HI := Lib.hid hi
      have HB := bitL_at s h8
      rw [congrFun HF.out i] at HB
      obtain ⟨u, hu⟩ : ∃ u, i / 8 = u := ⟨_, rfl⟩
      obtain ⟨e, he⟩ : ∃ e, i % 8 = e := ⟨_, rfl⟩
      have HB2 : ∀ h : u < s.size, ((f i : Nat) : Int) = ((s[u]'h).toNat : Int) / ((2 ^ (i % 8) : Nat) : Int) % 2 := by
        subst hu
        exact fun _ => HB
      clear HB
      rw [hu] at h8
      have HB := HB2 h8
      have hbt : (s[u]'h8).toNat < 256 := byte_lt _
      clear HB2
      have hu0 : (0 : Int) ≤ (u : Int) := by omega
      have hu1 : (u : Int) < (s.size : Int) := by omega
      rw [he] at HB
      have he8 : e < 8 := by omega
      have du : IntKind.i64.wrap ((i : Int) / 8) = (u : Int) := by rw [IntWalk.i64_in _ (by omega)]; omega
      have dt : IntKind.i64.wrap (((i : Nat) : Int).tdiv 8) = (u : Int) := by rw [Int.tdiv_eq_ediv_of_nonneg (by omega)]; exact du
      have de : ((i : Nat) : Int).tmod 8 = (e : Int) := by rw [Int.tmod_eq_emod_of_nonneg (by omega)]; omega
      have de2 : ((i : Nat) : Int) % 8 = (e : Int) := by omega
      have hp0 : (0 : Int) ≤ (e : Int) := by omega
      have hp1 : (e : Int) ≤ 32 := by omega
      have HP := fun W => Lib.hid (l07Pow_any (e : Int) W hp0 hp1)
      have hpe : powI (e : Int) = ((2 ^ e : Nat) : Int) := rfl
      obtain ⟨p, hp⟩ : ∃ p, 2 ^ e = p := ⟨_, rfl⟩
      rw [hp] at HB hpe
      rw [hpe] at HP
      have hp3 : p = 1 ∨ p = 2 ∨ p = 4 ∨ p = 8 ∨ p = 16 ∨ p = 32 ∨ p = 64 ∨ p = 128 := by rw [← hp]; exact pow8 e he8
      have hp2 : 0 < p := by omega
      have hpz : ¬ p = 0 := by omega
      have hfi := HLT.out i
      have hqn : (s[u]'h8).toNat / p < 256 := Nat.lt_of_le_of_lt (Nat.div_le_self _ _) hbt
      have hfr : f i = (s[u]'h8).toNat / p % 2 := by omega
      obtain ⟨q, hq⟩ : ∃ q, (s[u]'h8).toNat / p = q := ⟨_, rfl⟩
      have hqi : ((s[u]'h8).toNat : Int) / (p : Int) = (q : Int) := by rw [← hq]; simp
      obtain ⟨c, hc⟩ : ∃ c, f i = c := ⟨_, rfl⟩
      rw [hq] at hqn hfr
      rw [hc] at hfr hfi
      have HCC := Lib.hid hc
      have hqw : IntKind.i64.wrap ((q : Nat) : Int) = (q : Int) := IntWalk.i64_in _ (by omega)
      have hr1 : ((q : Nat) : Int) % 2 = (c : Int) := by omega
      have hr2 : ((q : Nat) : Int).tmod 2 = (c : Int) := by rw [Int.tmod_eq_emod_of_nonneg (by omega)]; omega
      have hs1 : IntKind.i64.wrap (2 * (m : Int) + (c : Int)) = 2 * (m : Int) + (c : Int) := IntWalk.i64_in _ (by omega)
      have hs2 : wrap64 (2 * (m : Int) + (c : Int)) = 2 * (m : Int) + (c : Int) := IntWalk.wrap64_in _ (by omega)
      clear hq hc HB
      clear hp3 hpe hp hi
      go_wp2_with fail
      refine wp_region_quiet (C := fun U => Below wr.heap.size wr U) (by kernel_rfl) (by kernel_rfl) (Below.refl _ _).drew ?_
      dsimp only
      go_big_quiet_want; go_big_quiet_op; first | go_big_quiet_on | (refine ⟨_, fun _ _ => rfl, ?_⟩; go_big_quiet_on)
      go_big_quiet_want; go_big_quiet_op; first | go_big_quiet_on | (refine ⟨_, fun _ _ => rfl, ?_⟩; go_big_quiet_on)
      go_big_quiet_want; go_big_quiet_op; first | go_big_quiet_on | (refine ⟨_, fun _ _ => rfl, ?_⟩; go_big_quiet_on)
      go_big_quiet_want; go_big_quiet_op; first | go_big_quiet_on | (refine ⟨_, fun _ _ => rfl, ?_⟩; go_big_quiet_on)
      go_big_quiet_want; refine ⟨.int .i64 (u : Int), fun W hW => (by simp [Oper.quietAt, Oper.quietUpon, go_sem, du]), ?_⟩; simp only [Act.put, List.setIfInBounds_toArray, List.set_cons_zero, List.set_cons_succ]; go_big_quiet_on
      go_big_quiet_want; go_big_quiet_op; first | go_big_quiet_on | (refine ⟨_, fun _ _ => rfl, ?_⟩; go_big_quiet_on)
      generalize (s[u]'h8).toNat = b at *
      go_big_quiet_want; go_big_quiet_op; first | go_big_quiet_on | (refine ⟨_, fun _ _ => rfl, ?_⟩; go_big_quiet_on)
      go_big_quiet_want; go_big_quiet_op; first | go_big_quiet_on | (refine ⟨_, fun _ _ => rfl, ?_⟩; go_big_quiet_on)
      go_big_quiet_want; refine ⟨.int .i64 (e : Int), fun W hW => (by simp [Oper.quietAt, Oper.quietUpon, go_sem, de]), ?_⟩; simp only [Act.put, List.setIfInBounds_toArray, List.set_cons_zero, List.set_cons_succ]; go_big_quiet_on
      go_big_quiet_want; go_big_quiet_op; refine ⟨_, fun W hW => (HP W).out.mono (fun e' w' h => ⟨h.1, by rw [← h.2]; exact hW⟩), ?_⟩; go_big_quiet_on
      go_big_quiet_want; refine ⟨.int .i64 (q : Int), fun W hW => (by simp [Oper.quietAt, Oper.quietUpon, go_sem, hpz, hqi, hqw]), ?_⟩; simp only [Act.put, List.setIfInBounds_toArray, List.set_cons_zero, List.set_cons_succ]; go_big_quiet_on
      go_big_quiet_want; refine ⟨.int .i64 (c : Int), fun W hW => (by simp [Oper.quietAt, Oper.quietUpon, go_sem, hr2]), ?_⟩; simp only [Act.put, List.setIfInBounds_toArray, List.set_cons_zero, List.set_cons_succ]; go_big_quiet_on
      go_big_quiet_want; refine ⟨.int .i64 (2 * (m : Int) + (c : Int)), fun W hW => (by simp [Oper.quietAt, Oper.quietUpon, go_sem, hs1]), ?_⟩; simp only [Act.put, List.setIfInBounds_toArray, List.set_cons_zero, List.set_cons_succ]; go_big_quiet_on
      go_big_quiet_want; go_big_quiet_op; first | go_big_quiet_on | (refine ⟨_, fun _ _ => rfl, ?_⟩; go_big_quiet_on)
      refine wpQuiet_nil ?_
      intro X hX
      go_wp2_with fail
      go_roundw
      case rel =>
        refine ⟨k, 2 * m + c, by go_num, by go_num, by omega, ?_, HB0.out.trans (hX.mono HB0.out.size)⟩
        have h1 := HM.out
        have h2 := HI.out
        rw [show w - k = (w - (k + 1)) + 1 by omega]
        show _ = f (a + k) + 2 * numOf f (a + k + 1) (w - (k + 1))
        rw [← HCC.out, h1, ← h2]
        rw [show a + k + 1 = a + (k + 1) by omega]
        omega
      case measure => first | (simp [intOf]; omega) | simp [intOf]

theorem hasB_nat {s : ByteArray} {a w : Int} (h : hasB s a w = true) : ∃ x y : Nat, a = (x : Int) ∧ w = (y : Int) ∧ x ≤ 1800 ∧ 1 ≤ y ∧ y ≤ 32 ∧ x + y ≤ 8 * s.size := by
  obtain ⟨h1, h2⟩ := hasB_of h
  obtain ⟨h3, h4, h5, h6⟩ := fieldB_of h1
  exact ⟨a.toNat, w.toNat, by omega, by omega, by omega, by omega, by omega, by omega⟩
theorem getI_big {s : ByteArray} {a w : Int} (h : 8000 < s.size) : getI s a w = 0 := if_pos h
theorem getI_off {s : ByteArray} {a w : Int} (h : hasB s a w = false) : getI s a w = 0 := by
  unfold getI
  rw [h]
  split <;> rfl
theorem getI_on {s : ByteArray} {a w : Nat} (h : ¬ 8000 < s.size) (h2 : hasB s a w = true) : getI s a w = ((numOf (bitL s.data.toList) a w : Nat) : Int) := by
  unfold getI
  rw [if_neg h, if_pos h2]
  simp
theorem bitsOf_any (s : ByteArray) (W : World) :
    Calls Try.prog 202 #[.string s] W fun e W' => e = .returned (.func (.func 213) #[] #[.pointer (some ⟨W.heap.size, 0, none⟩)]) ∧ W' = W.alloc (.cells #[.string s] 9) := by
  go_enter Try.func202, Try.ntmps202
  go_wp2
  go_ret
  exact ⟨rfl, rfl⟩

set_option maxRecDepth 100000 in
set_option maxHeartbeats 2000000 in
theorem implGetBits_any (s : ByteArray) (a w : Int) (W : World) (hs : s.size ≤ maxLen) :
    Calls Try.prog 176 #[.string s, .int .i64 a, .int .i64 w] W fun e W' => e = .returned (.int .i64 (getI s a w)) ∧ Below W.heap.size W W' := by
  by_cases h : 8000 < s.size
  · have HO := Lib.hid (getI_big (a := a) (w := w) h)
    go_enter Try.func176, Try.ntmps176
    go_wp2_with (go_at_call 123; refine (tooLong_any _ _ hs).mono ?_; rintro e w' ⟨rfl, rfl⟩)
    go_ret
    exact ⟨by rw [HO.out]; rfl, Below.refl _ _⟩
  have hd : decide (8000 < (s.size : Int)) = false := by simp; omega
  have HI := fun W => Lib.hid (implHasBits_any s a w W (by omega))
  rcases Bool.eq_false_or_eq_true (hasB s a w) with h1 | h1
  · obtain ⟨x, y, rfl, rfl, k1, k2, k3, k4⟩ := hasB_nat h1
    have HO := Lib.hid (getI_on h h1)
    have HBt := fun W => Lib.hid (bitsOf_any s W)
    obtain ⟨f, hf⟩ : ∃ f, bitL s.data.toList = f := ⟨_, rfl⟩
    have HF := Lib.hid hf
    have hlt : ∀ i, f i < 2 := fun i => by rw [← hf]; exact bitL_lt _ _
    have HLT := Lib.hid hlt
    have HC := fun R i W hR hi => Lib.hid (bitsOf1_any R s i W hR (by omega) hi)
    rw [hf] at HO HC
    clear hf hlt
    have h32 : 2 ^ y ≤ 4294967296 := pow_le32 k3
    have HIN := Lib.hid k4
    go_enter Try.func176, Try.ntmps176
    go_wp2_with (first
      | (go_at_call 123; refine (tooLong_any _ _ hs).mono ?_; rintro e w' ⟨rfl, rfl⟩)
      | (go_at_call 175; refine (HI _).out.mono ?_; rintro e w1 ⟨rfl, hb1⟩))
    refine (HBt _).out.mono ?_
    rintro e U ⟨rfl, rfl⟩
    have HR := Lib.hid (heap_alloc_new w1 (.cells #[.string s] 9))
    have hU : Below W.heap.size W (w1.alloc (.cells #[.string s] 9)) := hb1.alloc hb1.size _
    have hl : w1.heap.size < (w1.alloc (.cells #[.string s] 9)).heap.size := by simp
    generalize w1.alloc (.cells #[.string s] 9) = U at *
    generalize w1.heap.size = R at *
    have HU := Lib.hid hU
    clear hU hb1
    go_wp2_with fail
    go_loopw [8, 9, 22] (fun n _ j wr => ∃ k m : Nat, j = .int .i64 (k : Int) ∧ n = .int .i64 (m : Int) ∧ k ≤ y ∧ m = numOf f x k ∧ Below U.heap.size U wr) (fun _ _ j _ => y - (intOf j).toNat)
    case atStart => exact ⟨0, 0, rfl, rfl, Nat.zero_le _, rfl, Below.refl _ _⟩
    case round =>
      obtain ⟨k, m, rfl, rfl, hk, hm, hb0⟩ := hrel
      have HM := Lib.hid hm
      have HB0 := Lib.hid hb0
      have HRw := Lib.hid ((hb0.block R hl).trans HR.out)
      have hml : m < 2 ^ k := by rw [hm]; exact numOf_lt HLT.out _ _
      clear hm hb0
      by_cases hky : k < y
      · have hc2 := HLT.out (x + k)
        have hi : x + k < 8 * s.size := by omega
        have HCC := fun W h => HC R (x + k) W h hi
        have HS := Lib.hid (numOf_high f k x)
        obtain ⟨c, hc⟩ : ∃ c, f (x + k) = c := ⟨_, rfl⟩
        rw [hc] at hc2 HCC HS
        clear hc
        have e2 : (x : Int) + (k : Int) = ((x + k : Nat) : Int) := by omega
        obtain ⟨i, hxi⟩ : ∃ i, x + k = i := ⟨_, rfl⟩
        rw [hxi] at e2 HCC
        clear hxi hi
        obtain ⟨p, hp⟩ : ∃ p, 2 ^ k = p := ⟨_, rfl⟩
        have hple : p ≤ 4294967296 := by rw [← hp]; exact pow_le32 (by omega)
        have hp1 : 0 < p := by rw [← hp]; exact Nat.two_pow_pos k
        have hcp : c * p ≤ 4294967296 := by
          rcases (show c = 0 ∨ c = 1 by omega) with rfl | rfl <;> omega
        have hpi : (2 : Int) ^ k = (p : Int) := by rw [← hp]; simp
        have hcpi : (c : Int) * (p : Int) = ((c * p : Nat) : Int) := by simp
        have hor : bits .or .i64 (m : Int) ((c : Int) * (p : Int)) = (m : Int) + (c : Int) * (p : Int) := by
          refine i64_join k (by rw [hp]) (by omega) (by rw [hp] at hml; omega) (by omega) (by omega)
        have hw64 : wrap64 ((c : Int) * (p : Int)) = (c : Int) * (p : Int) := IntWalk.wrap64_in _ (by omega)
        have hyk : (k : Int) < (y : Int) := by omega
        rw [hp] at HS
        clear hcpi hp
        go_wp2_with (go_at_call 213; refine (HCC _ HRw.out).out.mono ?_; rintro e w' ⟨rfl, rfl⟩)
        go_roundw
        case rel => exact ⟨k + 1, m + c * p, by simp, by simp, by omega, by rw [HS.out, ← HM.out], HB0.out⟩
        case measure => first | (simp [intOf]; omega) | simp [intOf]
      · have hk2 : k = y := by omega
        subst hk2
        have HM2 := HM.out
        go_wp2
        go_ret
        exact ⟨by rw [HO.out, ← HM2]; rfl, HU.out.trans (HB0.out.mono HU.out.size)⟩
  · have HO := Lib.hid (getI_off h1)
    go_enter Try.func176, Try.ntmps176
    go_wp2_with (first
      | (go_at_call 123; refine (tooLong_any _ _ hs).mono ?_; rintro e w' ⟨rfl, rfl⟩)
      | (go_at_call 175; refine (HI _).out.mono ?_; rintro e w1 ⟨rfl, hb1⟩))
    go_ret
    exact ⟨by rw [HO.out]; rfl, hb1⟩
end Go.Proofs.Ytanijfmfjabmfaa
