/- What the model's and the program's NameRight answer: whether the text is a name. For every text; nothing that was there is written. -/
import Derived.Test.YteecenlpanmfaaaOwn
namespace Go.Proofs.Yteecenlpanmfaaa
open Go.RowKit
set_option linter.unusedVariables false

/-- A byte that may stand at that place of a name. -/
def nameByte (c : Int) (j : Nat) : Bool := (decide (97 ≤ c) && decide (c ≤ 122)) || (decide (j ≠ 0) && ((decide (48 ≤ c) && decide (c ≤ 57)) || decide (c = 95)))
def NameUpTo (s : ByteArray) (n : Nat) : Prop := ∀ j, j < n → nameByte (byteAt s j) j = true
instance (s : ByteArray) (n : Nat) : Decidable (NameUpTo s n) := inferInstanceAs (Decidable (∀ j, j < n → nameByte (byteAt s j) j = true))
def nameB (s : ByteArray) : Bool := decide (1 ≤ s.size ∧ s.size ≤ 20 ∧ NameUpTo s s.size)
theorem nameB_yes {s : ByteArray} (h1 : 1 ≤ s.size) (h2 : s.size ≤ 20) (h3 : NameUpTo s s.size) : nameB s = true := by simp [nameB, h1, h2, h3]
theorem nameB_short {s : ByteArray} (h1 : s.size < 1) : nameB s = false := by
  unfold nameB
  exact decide_eq_false (by omega)
theorem nameB_long {s : ByteArray} (h1 : 20 < s.size) : nameB s = false := by
  unfold nameB
  exact decide_eq_false (by omega)
theorem nameB_no {s : ByteArray} {j : Nat} (h : j < s.size) (hn : nameByte (byteAt s j) j = false) : nameB s = false := by
  unfold nameB
  refine decide_eq_false fun ⟨_, _, h3⟩ => ?_
  rw [h3 j h] at hn
  cases hn
theorem NameUpTo.zero (s : ByteArray) : NameUpTo s 0 := fun j hj => absurd hj (by omega)
theorem NameUpTo.next {s : ByteArray} {k : Nat} (h : NameUpTo s k) (hk : nameByte (byteAt s k) k = true) : NameUpTo s (k + 1) := by
  intro j hj
  rcases Nat.lt_or_ge j k with h' | h'
  · exact h j h'
  · obtain rfl : j = k := by omega
    exact hk

set_option maxHeartbeats 400000 in
theorem specNameRight_any (s : ByteArray) (w : World) (hs : s.size ≤ maxLen) :
    Calls Try.prog 24 #[.string s] w fun e w' => e = .returned (.bool (nameB s)) ∧ w = w' := by
  unfold maxLen at hs
  by_cases h1 : s.size < 1
  · rw [nameB_short h1]
    go_enter Try.func24, Try.ntmps24
    go_wp2
    go_ret
    exact ⟨rfl, rfl⟩
  by_cases h2 : 20 < s.size
  · rw [nameB_long h2]
    go_enter Try.func24, Try.ntmps24
    go_wp2
    go_ret
    exact ⟨rfl, rfl⟩
  go_enter Try.func24, Try.ntmps24
  go_wp2
  go_loop [3] (fun i => ∃ k : Nat, k ≤ s.size ∧ i = .int .i64 k ∧ NameUpTo s k) (fun i => s.size - (intOf i).toNat)
  case atStart => exact ⟨0, by omega, rfl, NameUpTo.zero s⟩
  case round =>
    obtain ⟨k, hk, rfl, hup⟩ := hrel
    have HU := Lib.hid hup
    clear hup
    by_cases hlt : k < s.size
    · have hc := byteAt_get s k hlt
      have h0 := byteAt_lo s k
      have h255 := byteAt_hi s k
      have HN := Lib.hid (@NameUpTo.next s k HU.out)
      have HF := Lib.hid (@nameB_no s k hlt)
      generalize hcc : byteAt s k = c at *
      clear hcc
      by_cases hok : nameByte c k = true
      · have HO := Lib.hid (HN.out hok)
        clear HN HF
        unfold nameByte at hok
        simp only [Bool.or_eq_true, Bool.and_eq_true, decide_eq_true_eq] at hok
        rcases hok with hl | ⟨hk0, hd | hd⟩
        · go_wp2
          go_round
          case rel => exact ⟨k + 1, by omega, by go_num, HO.out⟩
          case measure => simp [intOf]; omega
        · have e1 : ((k : Int) == 0) = false := by simp; omega
          have e2 : decide (c ≤ 57) = true := by simp; omega
          clear hk0
          go_wp2
          go_round
          case rel => exact ⟨k + 1, by omega, by go_num, HO.out⟩
          case measure => simp [intOf]; omega
        · have e1 : ((k : Int) == 0) = false := by simp; omega
          have e2 : decide (c ≤ 57) = false := by simp; omega
          have e3 : (c != 95) = false := by simp; omega
          have hd1 : 95 ≤ c ∧ c ≤ 95 := by omega
          clear hk0 hd
          go_wp2
          go_round
          case rel => exact ⟨k + 1, by omega, by go_num, HO.out⟩
          case measure => simp [intOf]; omega
      · have HO := Lib.hid (HF.out (by simpa using hok))
        clear HN HF
        have hno : (c < 48 ∨ (48 ≤ c ∧ c ≤ 57) ∨ (57 < c ∧ c < 97) ∨ 122 < c) ∧ (k < 1 ∨ (1 ≤ k ∧ ((c < 48 ∨ 57 < c) ∧ (c < 95 ∨ 95 < c)))) := by
          unfold nameByte at hok
          simp only [Bool.or_eq_true, Bool.and_eq_true, decide_eq_true_eq] at hok
          omega
        clear hok
        obtain ⟨hn1, hn2⟩ := hno
        rcases hn2 with hn2 | ⟨hk1, hn2, hn3⟩
        · have e1 : ((k : Int) == 0) = true := by simp; omega
          rcases hn1 with hn1 | hn1 | hn1 | hn1
          · go_wp2
            go_ret
            exact ⟨by rw [HO.out]; rfl, rfl⟩
          · go_wp2
            go_ret
            exact ⟨by rw [HO.out]; rfl, rfl⟩
          · go_wp2
            go_ret
            exact ⟨by rw [HO.out]; rfl, rfl⟩
          · have e4 : decide (c ≤ 122) = false := by simp; omega
            go_wp2
            go_ret
            exact ⟨by rw [HO.out]; rfl, rfl⟩
        · have e1 : ((k : Int) == 0) = false := by simp; omega
          have e3 : (c != 95) = true := by simp; omega
          rcases hn1 with hn1 | hn1 | hn1 | hn1
          · clear hn2 hn3
            go_wp2
            go_ret
            exact ⟨by rw [HO.out]; rfl, rfl⟩
          · exfalso; omega
          · have e2 : decide (c ≤ 57) = false := by simp; omega
            clear hn2 hn3
            go_wp2
            go_ret
            exact ⟨by rw [HO.out]; rfl, rfl⟩
          · have e2 : decide (c ≤ 57) = false := by simp; omega
            have e4 : decide (c ≤ 122) = false := by simp; omega
            clear hn2 hn3
            go_wp2
            go_ret
            exact ⟨by rw [HO.out]; rfl, rfl⟩
    · have hge : s.size ≤ k := by omega
      have HO := Lib.hid (nameB_yes (s := s) (by omega) (by omega) (by rw [show s.size = k by omega]; exact HU.out))
      clear hlt
      go_wp2
      go_ret
      exact ⟨by rw [HO.out]; rfl, rfl⟩

def letB (c : Int) : Bool := decide (97 ≤ c ∧ c ≤ 122)
def digB (c : Int) : Bool := decide (48 ≤ c ∧ c ≤ 57)

theorem letter_any (c : Int) (w : World) (h0 : 0 ≤ c) (h1 : c ≤ 255) :
    Calls Try.prog 42 #[.int .u8 c] w fun e w' => e = .returned (.bool (letB c)) ∧ w = w' := by
  by_cases a : 97 ≤ c
  · by_cases b : c ≤ 122
    · have HO := Lib.hid (show letB c = true by simp [letB, a, b])
      go_enter Try.func42, Try.ntmps42
      go_wp2
      go_ret
      exact ⟨by rw [HO.out]; simp, rfl⟩
    · have HO := Lib.hid (show letB c = false by simp [letB, a, b])
      go_enter Try.func42, Try.ntmps42
      go_wp2
      go_ret
      exact ⟨by rw [HO.out]; first | (simp; done) | (simp; omega), rfl⟩
  · have HO := Lib.hid (show letB c = false by simp [letB, a])
    go_enter Try.func42, Try.ntmps42
    go_wp2
    go_ret
    exact ⟨by rw [HO.out]; simp, rfl⟩

theorem digit_any (c : Int) (w : World) (h0 : 0 ≤ c) (h1 : c ≤ 255) :
    Calls Try.prog 43 #[.int .u8 c] w fun e w' => e = .returned (.bool (digB c)) ∧ w = w' := by
  by_cases a : 48 ≤ c
  · by_cases b : c ≤ 57
    · have HO := Lib.hid (show digB c = true by simp [digB, a, b])
      go_enter Try.func43, Try.ntmps43
      go_wp2
      go_ret
      exact ⟨by rw [HO.out]; simp, rfl⟩
    · have HO := Lib.hid (show digB c = false by simp [digB, a, b])
      go_enter Try.func43, Try.ntmps43
      go_wp2
      go_ret
      exact ⟨by rw [HO.out]; first | (simp; done) | (simp; omega), rfl⟩
  · have HO := Lib.hid (show digB c = false by simp [digB, a])
    go_enter Try.func43, Try.ntmps43
    go_wp2
    go_ret
    exact ⟨by rw [HO.out]; simp, rfl⟩

set_option maxHeartbeats 400000 in
theorem implNameRight_any (s : ByteArray) (w : World) (hs : s.size ≤ maxLen) :
    Calls Try.prog 25 #[.string s] w fun e w' => e = .returned (.bool (nameB s)) ∧ w = w' := by
  unfold maxLen at hs
  by_cases h1 : s.size < 1
  · rw [nameB_short h1]
    go_enter Try.func25, Try.ntmps25
    go_wp2
    go_ret
    exact ⟨rfl, rfl⟩
  by_cases h2 : 20 < s.size
  · rw [nameB_long h2]
    have hb : decide (20 < (s.size : Int)) = true := by simp; omega
    go_enter Try.func25, Try.ntmps25
    go_wp2
    go_ret
    exact ⟨rfl, rfl⟩
  have hlt0 : 0 < s.size := by omega
  have hc0 := byteAt_get s 0 hlt0
  have h00 := byteAt_lo s 0
  have h0255 := byteAt_hi s 0
  have hb : decide (20 < (s.size : Int)) = false := by simp; omega
  have HF0 := Lib.hid (@nameB_no s 0 hlt0)
  have HN0 := Lib.hid (@NameUpTo.next s 0 (NameUpTo.zero s))
  generalize hcc : byteAt s 0 = c0 at *
  clear hcc
  by_cases hl0 : 97 ≤ c0 ∧ c0 ≤ 122
  · have HU := Lib.hid (HN0.out (by simp [nameByte]; omega))
    have HL : letB c0 = true := by simp [letB]; omega
    clear HF0 HN0
    go_enter Try.func25, Try.ntmps25
    go_wp2_with (go_at_call 42; refine (letter_any _ _ (by omega) (by omega)).mono ?_; rintro e w' ⟨rfl, rfl⟩)
    go_loop [3] (fun i => ∃ k : Nat, 1 ≤ k ∧ k ≤ s.size ∧ i = .int .i64 k ∧ NameUpTo s k) (fun i => s.size - (intOf i).toNat)
    case atStart => exact ⟨1, by omega, by omega, rfl, HU.out⟩
    case round =>
      clear hc0 HU HL
      obtain ⟨k, hk1, hk, rfl, hup⟩ := hrel
      have HU := Lib.hid hup
      clear hup
      by_cases hlt : k < s.size
      · have hc := byteAt_get s k hlt
        have h0 := byteAt_lo s k
        have h255 := byteAt_hi s k
        have HN := Lib.hid (@NameUpTo.next s k HU.out)
        have HF := Lib.hid (@nameB_no s k hlt)
        generalize hcc : byteAt s k = c at *
        clear hcc
        by_cases hl : 97 ≤ c ∧ c ≤ 122
        · have e1 : letB c = true := by simp [letB]; omega
          have HO := Lib.hid (HN.out (by simp [nameByte]; omega))
          clear HN HF
          go_wp2_with (first | (go_at_call 42; refine (letter_any _ _ (by omega) (by omega)).mono ?_; rintro e w' ⟨rfl, rfl⟩) | (go_at_call 43; refine (digit_any _ _ (by omega) (by omega)).mono ?_; rintro e w' ⟨rfl, rfl⟩))
          go_round
          case rel => exact ⟨k + 1, by omega, by omega, by go_num, HO.out⟩
          case measure => simp [intOf]; omega
        have e1 : letB c = false := by simp [letB]; omega
        by_cases hd : 48 ≤ c ∧ c ≤ 57
        · have e2 : digB c = true := by simp [digB]; omega
          have HO := Lib.hid (HN.out (by simp [nameByte]; omega))
          clear HN HF
          go_wp2_with (first | (go_at_call 42; refine (letter_any _ _ (by omega) (by omega)).mono ?_; rintro e w' ⟨rfl, rfl⟩) | (go_at_call 43; refine (digit_any _ _ (by omega) (by omega)).mono ?_; rintro e w' ⟨rfl, rfl⟩))
          go_round
          case rel => exact ⟨k + 1, by omega, by omega, by go_num, HO.out⟩
          case measure => simp [intOf]; omega
        have e2 : digB c = false := by simp [digB]; omega
        by_cases hu : c = 95
        · have e3 : (c != 95) = false := by simp; omega
          have HO := Lib.hid (HN.out (by simp [nameByte]; omega))
          clear HN HF hu
          go_wp2_with (first | (go_at_call 42; refine (letter_any _ _ (by omega) (by omega)).mono ?_; rintro e w' ⟨rfl, rfl⟩) | (go_at_call 43; refine (digit_any _ _ (by omega) (by omega)).mono ?_; rintro e w' ⟨rfl, rfl⟩))
          go_round
          case rel => exact ⟨k + 1, by omega, by omega, by go_num, HO.out⟩
          case measure => simp [intOf]; omega
        · have e3 : (c != 95) = true := by simp; omega
          have HO := Lib.hid (HF.out (by simp [nameByte]; omega))
          clear HN HF hu
          go_wp2_with (first | (go_at_call 42; refine (letter_any _ _ (by omega) (by omega)).mono ?_; rintro e w' ⟨rfl, rfl⟩) | (go_at_call 43; refine (digit_any _ _ (by omega) (by omega)).mono ?_; rintro e w' ⟨rfl, rfl⟩))
          go_ret
          exact ⟨by rw [HO.out]; rfl, rfl⟩
      · have hge : s.size ≤ k := by omega
        have HO := Lib.hid (nameB_yes (s := s) (by omega) (by omega) (by rw [show s.size = k by omega]; exact HU.out))
        clear hlt
        go_wp2
        go_ret
        exact ⟨by rw [HO.out]; rfl, rfl⟩
  · have HU := Lib.hid (HF0.out (by simp [nameByte]; omega))
    have HL : letB c0 = false := by simp [letB]; omega
    clear HF0 HN0
    go_enter Try.func25, Try.ntmps25
    go_wp2_with (go_at_call 42; refine (letter_any _ _ (by omega) (by omega)).mono ?_; rintro e w' ⟨rfl, rfl⟩)
    go_ret
    exact ⟨by rw [HU.out]; rfl, rfl⟩
end Go.Proofs.Yteecenlpanmfaaa
