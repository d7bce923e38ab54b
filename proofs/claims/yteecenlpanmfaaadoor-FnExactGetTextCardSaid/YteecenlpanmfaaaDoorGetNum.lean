/- What the model's GetNum answers: the number that stands at a place, the place behind it, or a code. For every text and every place; nothing that was there is written. -/
import Derived.Test.YteecenlpanmfaaaDoorOwn
import Derived.Handy
namespace Go.Proofs.YteecenlpanmfaaaDoor
open Go.RowKit
set_option linter.unusedVariables false

/-- A number, a place and a code, as a value. -/
def numOut (n a c : Int) : Value := .agg #[.int .i64 n, .int .i64 a, .int .i64 c]
/-- What a byte's seven low bits add at place i of a number. -/
def addAt (c : Int) (i : Nat) : Int := c % 128 * 2 ^ (7 * i)
/-- x is made of i bytes. -/
def Made (i : Nat) (x : Int) : Prop := 0 ≤ x ∧ x < 2 ^ (7 * i)
theorem Made.zero : Made 0 0 := ⟨by omega, by simp⟩
theorem pow7 (i : Nat) (h : i ≤ 9) : (2 : Int) ^ (7 * i) = 1 ∨ (2 : Int) ^ (7 * i) = 128 ∨ (2 : Int) ^ (7 * i) = 16384 ∨ (2 : Int) ^ (7 * i) = 2097152 ∨ (2 : Int) ^ (7 * i) = 268435456 ∨ (2 : Int) ^ (7 * i) = 34359738368 ∨ (2 : Int) ^ (7 * i) = 4398046511104 ∨ (2 : Int) ^ (7 * i) = 562949953421312 ∨ (2 : Int) ^ (7 * i) = 72057594037927936 ∨ (i = 9 ∧ (2 : Int) ^ (7 * i) = 9223372036854775808) := by
  rcases (show i = 0 ∨ i = 1 ∨ i = 2 ∨ i = 3 ∨ i = 4 ∨ i = 5 ∨ i = 6 ∨ i = 7 ∨ i = 8 ∨ i = 9 by omega) with rfl | rfl | rfl | rfl | rfl | rfl | rfl | rfl | rfl | rfl <;> simp
theorem addAt_facts {i : Nat} {x c : Int} (hm : Made i x) (h0 : 0 ≤ c) (h1 : c ≤ 255) (hi : i ≤ 9) (h9 : i = 9 → c ≤ 1) :
    0 ≤ addAt c i ∧ x + addAt c i ≤ 18446744073709551615 ∧ IntKind.u64.wrap (c % 128 * 2 ^ (7 * i)) = addAt c i := by
  obtain ⟨hm0, hm1⟩ := hm
  unfold addAt
  have hw : ∀ n : Int, IntKind.u64.wrap n = n % 18446744073709551616 := fun n => by simp [IntKind.wrap, IntKind.bits, IntKind.signed]
  rw [hw]
  rcases pow7 i hi with h | h | h | h | h | h | h | h | h | ⟨h9', h⟩ <;> rw [h] at hm1 ⊢
  all_goals first | (have := h9 h9'; omega) | omega
theorem Made.next {i : Nat} {x c : Int} (hm : Made i x) (h0 : 0 ≤ c) : Made (i + 1) (x + addAt c i) := by
  obtain ⟨hm0, hm1⟩ := hm
  unfold addAt
  have e : (2 : Int) ^ (7 * (i + 1)) = 128 * 2 ^ (7 * i) := by
    rw [show 7 * (i + 1) = 7 * i + 7 by omega, Int.pow_add]
    omega
  have hp : (0 : Int) < 2 ^ (7 * i) := Int.pow_pos (by omega)
  have hc : 0 ≤ c % 128 ∧ c % 128 ≤ 127 := by omega
  refine ⟨?_, ?_⟩
  · have := Int.mul_nonneg hc.1 (Int.le_of_lt hp)
    omega
  · rw [e]
    have := Int.mul_le_mul_of_nonneg_right hc.2 (Int.le_of_lt hp)
    omega

/-- The number that was folded. -/
def unfoldI (u : Int) : Int := if u % 2 = 1 then -(u / 2) - 1 else u / 2
/-- The number from place p on: i bytes are read, they make x; f more may be. -/
def getF (s : ByteArray) (p : Nat) : Nat → Nat → Int → Int × Int × Int
  | 0, _, _ => (0, 0, 3)
  | f + 1, i, x =>
    if s.size ≤ p + i then (0, 0, 4)
    else if i = 9 ∧ 1 < byteAt s (p + i) then (0, 0, 3)
    else if byteAt s (p + i) < 128 then
      if byteAt s (p + i) = 0 ∧ 0 < i then (0, 0, 3) else (unfoldI (x + addAt (byteAt s (p + i)) i), (p : Int) + i + 1, 0)
    else getF s p f (i + 1) (x + addAt (byteAt s (p + i)) i)
def getNumR (s : ByteArray) (a : Int) : Int × Int × Int := if 8000 < s.size then (0, 0, 2) else if a < 0 then (0, 0, 1) else getF s a.toNat 10 0 0

set_option maxHeartbeats 1000000 in
theorem specGetNum_mid (s : ByteArray) (p : Nat) (w : World) (hs : s.size ≤ 8000) (hp : p ≤ 8000) (R : Int × Int × Int) (hR : Hid (getF s p 10 0 0 = R)) :
    Calls Tryd.prog 14 #[.string s, .int .i64 (p : Int)] w fun e w' => e = .returned (numOut R.1 R.2.1 R.2.2) ∧ Below w.heap.size w w' := by
  have hd : decide (8000 < (s.size : Int)) = false := by simp; omega
  have hp0 : (0 : Int) ≤ (p : Int) := by omega
  go_enter Tryd.func14, Tryd.ntmps14
  go_wp2
  go_loop [5, 6] (fun u v => ∃ (x : Int) (i : Nat), u = .int .u64 x ∧ v = .int .i64 (i : Int) ∧ i ≤ 9 ∧ Made i x ∧ getF s p (10 - i) i x = R) (fun _ v => 10 - (intOf v).toNat)
  case atStart => exact ⟨0, 0, rfl, rfl, by omega, Made.zero, hR.out⟩
  case round =>
    obtain ⟨x, i, rfl, rfl, hi, hm, hr⟩ := hrel
    have HM := Lib.hid hm
    have h0 := hm.1
    clear hm
    rw [show 10 - i = (9 - i) + 1 by omega, getF] at hr
    by_cases hc : p + i < s.size
    · rw [if_neg (by omega)] at hr
      have hc1 := byteAt_get s (p + i) hc
      have hc0 := byteAt_lo s (p + i)
      have hc2 := byteAt_hi s (p + i)
      generalize byteAt s (p + i) = c at *
      by_cases h9 : i = 9 ∧ 1 < c
      · rw [if_pos h9] at hr
        have HR := Lib.hid hr
        have e1 : ((i : Int) == 9) = true := by simp; omega
        clear hr
        have e2 : decide (1 < c) = true := by simp; omega
        have hi9 : 9 ≤ i := by omega
        have hc9 : 1 < c := by omega
        clear h9
        go_wp2
        exact bodyPost_ret (v := numOut 0 0 3) (by simp [results, Tryd.results14, go_sem, numOut]) rfl ⟨by rw [← HR.out], by go_grown⟩
      · rw [if_neg h9] at hr
        obtain ⟨hD0, hD1, hD2⟩ := addAt_facts HM.out hc0 hc2 hi (by omega)
        have HN := Lib.hid (HM.out.next (c := c) hc0)
        generalize addAt c i = D at *
        have h9' : i < 9 ∨ (9 ≤ i ∧ c ≤ 1) := by omega
        have HD := Lib.hid hD2
        clear h9
        by_cases h128 : c < 128
        · rw [if_pos h128] at hr
          by_cases hz : c = 0 ∧ 0 < i
          · rw [if_pos hz] at hr
            have HR := Lib.hid hr
            clear hr
            obtain ⟨hz1, hz2⟩ := hz
            have e3 : (c == 0) = true := by simp; omega
            have e4 : decide ((0 : Int) < (i : Int)) = true := by simp; omega
            have e5 : decide (1 < c) = false := by simp; omega
            have hz3 : c ≤ 0 := by omega
            clear hz1
            rcases h9' with hi9 | ⟨hi9, hc9⟩
            · have e1 : ((i : Int) == 9) = false := by simp; omega
              go_wp2
              exact bodyPost_ret (v := numOut 0 0 3) (by simp [results, Tryd.results14, go_sem, numOut]) rfl ⟨by rw [← HR.out], by go_grown⟩
            · have e1 : ((i : Int) == 9) = true := by simp; omega
              go_wp2
              exact bodyPost_ret (v := numOut 0 0 3) (by simp [results, Tryd.results14, go_sem, numOut]) rfl ⟨by rw [← HR.out], by go_grown⟩
          · rw [if_neg hz] at hr
            have HR := Lib.hid hr
            clear hr
            have hu : unfoldI (x + D) = (if (x + D) % 2 = 1 then -((x + D) / 2) - 1 else (x + D) / 2) := rfl
            have HU := Lib.hid hu
            clear hu
            have hz' : (1 ≤ c ∧ c ≤ 127) ∨ (c ≤ 0 ∧ i ≤ 0) := by omega
            clear hz
            by_cases hodd : (x + D) % 2 = 1
            · have HU2 := Lib.hid (HU.out.trans (if_pos hodd))
              have e6 : ((x + D) % 2 == 1) = true := by simp; omega
              clear hodd HU
              rcases h9' with hi9 | ⟨hi9, hc9⟩
              · have e1 : ((i : Int) == 9) = false := by simp; omega
                rcases hz' with ⟨hz1, hz2⟩ | ⟨hz1, hz2⟩
                · have e3 : (c == 0) = false := by simp; omega
                  go_wp2
                  exact bodyPost_ret (v := numOut (-((x + D) / 2) - 1) ((p : Int) + i + 1) 0) (by simp [results, Tryd.results14, go_sem, numOut]) rfl ⟨by rw [← HR.out, HU2.out], by go_grown⟩
                · have e3 : (c == 0) = true := by simp; omega
                  have e4 : decide ((0 : Int) < (i : Int)) = false := by simp; omega
                  go_wp2
                  exact bodyPost_ret (v := numOut (-((x + D) / 2) - 1) ((p : Int) + i + 1) 0) (by simp [results, Tryd.results14, go_sem, numOut]) rfl ⟨by rw [← HR.out, HU2.out], by go_grown⟩
              · have e1 : ((i : Int) == 9) = true := by simp; omega
                have e2 : decide (1 < c) = false := by simp; omega
                rcases hz' with ⟨hz1, hz2⟩ | ⟨hz1, hz2⟩
                · have e3 : (c == 0) = false := by simp; omega
                  go_wp2
                  exact bodyPost_ret (v := numOut (-((x + D) / 2) - 1) ((p : Int) + i + 1) 0) (by simp [results, Tryd.results14, go_sem, numOut]) rfl ⟨by rw [← HR.out, HU2.out], by go_grown⟩
                · exfalso; omega
            · have HU2 := Lib.hid (HU.out.trans (if_neg hodd))
              have e6 : ((x + D) % 2 == 1) = false := by simp; omega
              clear hodd HU
              rcases h9' with hi9 | ⟨hi9, hc9⟩
              · have e1 : ((i : Int) == 9) = false := by simp; omega
                rcases hz' with ⟨hz1, hz2⟩ | ⟨hz1, hz2⟩
                · have e3 : (c == 0) = false := by simp; omega
                  go_wp2
                  exact bodyPost_ret (v := numOut ((x + D) / 2) ((p : Int) + i + 1) 0) (by simp [results, Tryd.results14, go_sem, numOut]) rfl ⟨by rw [← HR.out, HU2.out], by go_grown⟩
                · have e3 : (c == 0) = true := by simp; omega
                  have e4 : decide ((0 : Int) < (i : Int)) = false := by simp; omega
                  go_wp2
                  exact bodyPost_ret (v := numOut ((x + D) / 2) ((p : Int) + i + 1) 0) (by simp [results, Tryd.results14, go_sem, numOut]) rfl ⟨by rw [← HR.out, HU2.out], by go_grown⟩
              · have e1 : ((i : Int) == 9) = true := by simp; omega
                have e2 : decide (1 < c) = false := by simp; omega
                rcases hz' with ⟨hz1, hz2⟩ | ⟨hz1, hz2⟩
                · have e3 : (c == 0) = false := by simp; omega
                  go_wp2
                  exact bodyPost_ret (v := numOut ((x + D) / 2) ((p : Int) + i + 1) 0) (by simp [results, Tryd.results14, go_sem, numOut]) rfl ⟨by rw [← HR.out, HU2.out], by go_grown⟩
                · exfalso; omega
        · rw [if_neg h128] at hr
          rcases h9' with hi9 | ⟨hi9, hc9⟩
          · have e1 : ((i : Int) == 9) = false := by simp; omega
            have hge : 128 ≤ c := by omega
            have HR := Lib.hid hr
            clear hr h128
            go_wp2
            go_round
            case rel => exact ⟨_, i + 1, rfl, by go_num, by omega, HN.out, by rw [show 10 - (i + 1) = 9 - i by omega]; exact HR.out⟩
            case measure => simp [intOf]; omega
          · exfalso; omega
    · rw [if_pos (by omega)] at hr
      have HR := Lib.hid hr
      clear hr
      have hge : s.size ≤ p + i := by omega
      go_wp2
      exact bodyPost_ret (v := numOut 0 0 4) (by simp [results, Tryd.results14, go_sem, numOut]) rfl ⟨by rw [← HR.out], by go_grown⟩

/-- A reading tells a number and a place, or zeros and a code. -/
theorem getF_two (s : ByteArray) (p : Nat) : ∀ (f i : Nat) (x : Int), (∃ n a, getF s p f i x = (n, a, 0)) ∨ ∃ c, 1 ≤ c ∧ getF s p f i x = (0, 0, c) := by
  intro f
  induction f with
  | zero => intro i x; exact .inr ⟨3, by omega, rfl⟩
  | succ f ih =>
    intro i x
    rw [getF]
    split
    · exact .inr ⟨4, by omega, rfl⟩
    split
    · exact .inr ⟨3, by omega, rfl⟩
    split
    · split
      · exact .inr ⟨3, by omega, rfl⟩
      · exact .inl ⟨_, _, rfl⟩
    · exact ih _ _
theorem getF_end (s : ByteArray) (p : Nat) (h : s.size ≤ p) : getF s p 10 0 0 = (0, 0, 4) := by rw [getF, if_pos (by omega)]

set_option maxHeartbeats 1000000 in
theorem specGetNum_any (s : ByteArray) (a : Int) (w : World) (hs : s.size ≤ maxLen) (h0 : -9223372036854775808 ≤ a) (h1 : a ≤ 9223372036854775807) :
    Calls Tryd.prog 14 #[.string s, .int .i64 a] w fun e w' => e = .returned (numOut (getNumR s a).1 (getNumR s a).2.1 (getNumR s a).2.2) ∧ Below w.heap.size w w' := by
  by_cases hb : 8000 < s.size
  · rw [show getNumR s a = (0, 0, 2) from if_pos hb]
    have hd : decide (8000 < (s.size : Int)) = true := by simp; omega
    unfold maxLen at hs
    go_enter Tryd.func14, Tryd.ntmps14
    go_wp2
    exact bodyPost_ret (v := numOut 0 0 2) (by simp [results, Tryd.results14, go_sem, numOut]) rfl ⟨rfl, by go_grown⟩
  have hd : decide (8000 < (s.size : Int)) = false := by simp; omega
  by_cases ha : a < 0
  · rw [show getNumR s a = (0, 0, 1) by rw [getNumR, if_neg hb, if_pos ha]]
    go_enter Tryd.func14, Tryd.ntmps14
    go_wp2
    exact bodyPost_ret (v := numOut 0 0 1) (by simp [results, Tryd.results14, go_sem, numOut]) rfl ⟨rfl, by go_grown⟩
  by_cases hc : 8000 < a
  · rw [show getNumR s a = (0, 0, 4) by rw [getNumR, if_neg hb, if_neg ha, getF_end s _ (by omega)]]
    have ha' : 0 ≤ a := by omega
    have hge : (s.size : Int) ≤ a := by omega
    go_enter Tryd.func14, Tryd.ntmps14
    go_wp2
    refine wp_loop_rounds 1 ?_
    rw [rounds_succ]
    go_wp2
    exact bodyPost_ret (v := numOut 0 0 4) (by simp [results, Tryd.results14, go_sem, numOut]) rfl ⟨rfl, by go_grown⟩
  · have H := specGetNum_mid s a.toNat w (by omega) (by omega) _ (Lib.hid rfl)
    rw [show ((a.toNat : Nat) : Int) = a by omega] at H
    rw [show getNumR s a = getF s a.toNat 10 0 0 by rw [getNumR, if_neg hb, if_neg ha]]
    exact H

set_option maxHeartbeats 400000 in
theorem eqNumOut_same (n a c : Int) (w : World) :
    Calls Tryd.prog 15 #[numOut n a c, numOut n a c] w fun e w' => e = .returned (.bool true) ∧ Below w.heap.size w w' := by
  unfold numOut
  go_enter Tryd.func15, Tryd.ntmps15
  go_wp2
  go_ret
  exact ⟨rfl, by go_grown⟩
end Go.Proofs.YteecenlpanmfaaaDoor
