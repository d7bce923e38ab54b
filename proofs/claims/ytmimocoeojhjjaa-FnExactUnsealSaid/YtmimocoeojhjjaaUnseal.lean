/- What Unseal answers, the program's and the model's: the text ahead of the last four bytes, where these are its CRC's; else a code. For every text; nothing that was there is written. -/
import Derived.Test.YtmimocoeojhjjaaSeal
import Derived.RegionTactic
import Derived.ChangeAlike
import Derived.Deep.RegionWith
import Derived.IntWalk
import Derived.Handy
namespace Go.Proofs.Ytmimocoeojhjjaa
open Go.RowKit
set_option linter.unusedVariables false

/-- The bytes that should be behind a text: its CRC's; and those that are. -/
def sumB (s : ByteArray) : List UInt8 := fourB (crcOf 0 (s.data.toList.take (s.size - 4)))
def endB (s : ByteArray) : List UInt8 := (s.extract (s.size - 4) s.size).toList
def unsealC (s : ByteArray) : Int := if 8000 < s.size then 2 else if s.size < 4 then 4 else if sumB s = endB s then 0 else 5
def unsealT (s : ByteArray) : List UInt8 := if 8000 < s.size then [] else if s.size < 4 then [] else if sumB s = endB s then s.data.toList.take (s.size - 4) else []

set_option maxHeartbeats 1000000 in
theorem specUnseal_mid (s : ByteArray) (w : World) (h0 : 4 ≤ s.size) (hs : s.size ≤ 8000) (c : Nat) (hcc : Hid (crcOf 0 (s.data.toList.take (s.size - 4)) = c)) (hr : R32 c) (l : List UInt8) (hll : Hid (fourB c = l)) :
    ((l == (s.extract (s.size - 4) s.size).toList) = true → Calls Try.prog 15 #[.string s] w fun e w' => e = .returned (textOut (s.data.toList.take (s.size - 4)) 0 0) ∧ Below w.heap.size w w') ∧
    ((l == (s.extract (s.size - 4) s.size).toList) = false → Calls Try.prog 15 #[.string s] w fun e w' => e = .returned (textOut [] 0 5) ∧ Below w.heap.size w w') := by
  have hd : decide (8000 < (s.size : Int)) = false := by simp; omega
  have hd2 : decide ((s.size : Int) < 4) = false := by simp; omega
  have hw1 : IntKind.i64.wrap ((s.size : Int) - 4) = (s.size : Int) - 4 := IntWalk.i64_in _ (by omega)
  have hw2 : (0 : Int) ≤ (s.size : Int) - 4 := by omega
  have hw3 : ((s.size : Int) - 4).toNat = s.size - 4 := by omega
  have hw4 : (s.size : Int) - 4 ≤ (s.size : Int) := by omega
  have HC : ∀ W, Hid (Calls Try.prog 24 #[.int .i64 0, .string (s.extract 0 (s.size - 4))] W fun e w' => e = .returned (.int .i64 c) ∧ W = w') := fun W => by
    have := l01Crc_any 0 (s.extract 0 (s.size - 4)) W (show 0 < 4294967296 by omega) (by simp; omega)
    have e : crcOf 0 (s.extract 0 (s.size - 4)).data.toList = c := by rw [← hcc.out]; simp
    rwa [e] at this
  have HF : ∀ W, Hid (Calls Try.prog 23 #[.int .i64 c] W fun e w' => e = .returned (.string ⟨l.toArray⟩) ∧ Below W.heap.size W w') := fun W => by
    have := four_any c W hr
    rwa [hll.out] at this
  refine ⟨fun he => ?_, fun he => ?_⟩
  · go_enter Try.func15, Try.ntmps15
    go_wp2_with fail
    go_region_with (first | (go_at_call 24; refine (HC _).out.mono ?_; rintro e w' ⟨rfl, rfl⟩) | (go_at_call 23; refine (HF _).out.mono ?_; rintro e w1 ⟨rfl, hb⟩))
    all_goals
      obtain ⟨hb1, hb2⟩ := bcell hb
      have hz : w.heap.size < w1.heap.size := by have := hb.size; simp at this; omega
      go_wp2
      refine bodyPost_ret (v := .agg #[.string (s.extract 0 (s.size - 4)), .int .i64 0, .int .i64 0]) (by simp [results, Try.results15, go_sem, hb1]) rfl ⟨by rw [textOut_take], ?_⟩
      exact (((((Below.refl _ _).alloc (Nat.le_refl _) _).drew.trans (hb.mono (by simp))).setCell (by simp) _).setCell (by simp) _).setCell (by simp) _
  · go_enter Try.func15, Try.ntmps15
    go_wp2_with fail
    go_region_with (first | (go_at_call 24; refine (HC _).out.mono ?_; rintro e w' ⟨rfl, rfl⟩) | (go_at_call 23; refine (HF _).out.mono ?_; rintro e w1 ⟨rfl, hb⟩))
    all_goals
      obtain ⟨hb1, hb2⟩ := bcell hb
      have hz : w.heap.size < w1.heap.size := by have := hb.size; simp at this; omega
      go_wp2
      refine bodyPost_ret (v := textOut [] 0 5) (by simp [results, Try.results15, go_sem, hb1, textOut]) rfl ⟨rfl, ?_⟩
      exact (((((Below.refl _ _).alloc (Nat.le_refl _) _).drew.trans (hb.mono (by simp))).setCell (by simp) _).setCell (by simp) _).setCell (by simp) _

set_option maxHeartbeats 1000000 in
theorem implUnseal_mid (s : ByteArray) (w : World) (h0 : 4 ≤ s.size) (hs : s.size ≤ 8000) (l : List UInt8) (hll : Hid (fourB (crcOf 0 (s.data.toList.take (s.size - 4))) = l)) :
    (((s.extract (s.size - 4) s.size).toList == l) = true → Calls Try.prog 10 #[.string s] w fun e w' => e = .returned (textOut (s.data.toList.take (s.size - 4)) 0 0) ∧ Below w.heap.size w w') ∧
    (((s.extract (s.size - 4) s.size).toList == l) = false → Calls Try.prog 10 #[.string s] w fun e w' => e = .returned (textOut [] 0 5) ∧ Below w.heap.size w w') := by
  have hd : decide (8000 < (s.size : Int)) = false := by simp; omega
  have hd2 : decide ((s.size : Int) < 4) = false := by simp; omega
  have hw1 : IntKind.i64.wrap ((s.size : Int) - 4) = (s.size : Int) - 4 := IntWalk.i64_in _ (by omega)
  have hw2 : (0 : Int) ≤ (s.size : Int) - 4 := by omega
  have hw3 : ((s.size : Int) - 4).toNat = s.size - 4 := by omega
  have hw4 : (s.size : Int) - 4 ≤ (s.size : Int) := by omega
  have hm : s.size ≤ maxLen := by unfold maxLen; omega
  have HM := Lib.hid hm
  clear hm
  have HC : ∀ W, Hid (Calls Try.prog 22 #[.string (s.extract 0 (s.size - 4))] W fun e w' => e = .returned (.string ⟨l.toArray⟩) ∧ Below W.heap.size W w') := fun W => by
    have := sumOf_any (s.extract 0 (s.size - 4)) W (by simp; omega)
    have e : fourB (crcOf 0 (s.extract 0 (s.size - 4)).data.toList) = l := by rw [← hll.out]; simp
    rwa [e] at this
  have HJ : ∀ W, Hid (Calls Try.prog 21 #[.string ⟨#[]⟩, .string (s.extract 0 (s.size - 4))] W fun e w' => e = .returned (.string (s.extract 0 (s.size - 4))) ∧ Below W.heap.size W w') := fun W => by
    have := joined_any ⟨#[]⟩ (s.extract 0 (s.size - 4)) W (by show 0 ≤ _; omega) (by simp; omega)
    have e : ByteArray.mk ((ByteArray.mk #[]).data.toList ++ (s.extract 0 (s.size - 4)).data.toList).toArray = s.extract 0 (s.size - 4) := by
      rw [extract_take]
      rfl
    rwa [e] at this
  refine ⟨fun he => ?_, fun he => ?_⟩
  · go_enter Try.func10, Try.ntmps10
    go_wp2_with (go_at_call 25; refine (tooLong_any _ _ HM.out).mono ?_; rintro e w' ⟨rfl, rfl⟩)
    go_region_with (go_at_call 22; refine (HC _).out.mono ?_; rintro e w1 ⟨rfl, hb⟩)
    all_goals
      obtain ⟨hb1, hb2⟩ := bcell hb
      have hz : w.heap.size < w1.heap.size := by have := hb.size; simp at this; omega
      go_wp2_with (go_at_call 21; refine (HJ _).out.mono ?_; rintro e w2 ⟨rfl, hb'⟩; obtain ⟨hc1, hc2⟩ := bcell hb'; have hz2 : w.heap.size < w2.heap.size := Nat.lt_of_lt_of_le hz hb'.size)
      refine bodyPost_ret (v := .agg #[.string (s.extract 0 (s.size - 4)), .int .i64 0, .int .i64 0]) (by simp [results, Try.results10, go_sem, hc1, hb1, hz]) rfl ⟨by rw [textOut_take], ?_⟩
      exact ((((((Below.refl _ _).alloc (Nat.le_refl _) _).drew.trans (hb.mono (by simp))).trans (hb'.mono (Nat.le_of_lt hz))).setCell (by simp) _).setCell (by simp) _).setCell (by simp) _
  · go_enter Try.func10, Try.ntmps10
    go_wp2_with (go_at_call 25; refine (tooLong_any _ _ HM.out).mono ?_; rintro e w' ⟨rfl, rfl⟩)
    go_region_with (go_at_call 22; refine (HC _).out.mono ?_; rintro e w1 ⟨rfl, hb⟩)
    all_goals
      obtain ⟨hb1, hb2⟩ := bcell hb
      have hz : w.heap.size < w1.heap.size := by have := hb.size; simp at this; omega
      go_wp2
      refine bodyPost_ret (v := textOut [] 0 5) (by simp [results, Try.results10, go_sem, hb1, textOut]) rfl ⟨rfl, ?_⟩
      exact (((((Below.refl _ _).alloc (Nat.le_refl _) _).drew.trans (hb.mono (by simp))).setCell (by simp) _).setCell (by simp) _).setCell (by simp) _

set_option maxHeartbeats 400000 in
theorem specUnseal_any (s : ByteArray) (w : World) (hs : s.size ≤ maxLen) :
    Calls Try.prog 15 #[.string s] w fun e w' => e = .returned (textOut (unsealT s) 0 (unsealC s)) ∧ Below w.heap.size w w' := by
  by_cases ha : 8000 < s.size
  · rw [show unsealT s = [] from if_pos ha, show unsealC s = 2 from if_pos ha]
    have hd : decide (8000 < (s.size : Int)) = true := by simp; omega
    unfold maxLen at hs
    go_enter Try.func15, Try.ntmps15
    go_wp2
    exact bodyPost_ret (v := textOut [] 0 2) (by simp [results, Try.results15, go_sem, textOut]) rfl ⟨rfl, (Below.refl _ _).alloc (Nat.le_refl _) _⟩
  have hd : decide (8000 < (s.size : Int)) = false := by simp; omega
  by_cases hb : s.size < 4
  · rw [show unsealT s = [] by simp [unsealT, ha, hb], show unsealC s = 4 by simp [unsealC, ha, hb]]
    have hd2 : decide ((s.size : Int) < 4) = true := by simp; omega
    go_enter Try.func15, Try.ntmps15
    go_wp2
    exact bodyPost_ret (v := textOut [] 0 4) (by simp [results, Try.results15, go_sem, textOut]) rfl ⟨rfl, (Below.refl _ _).alloc (Nat.le_refl _) _⟩
  · have H := specUnseal_mid s w (by omega) (by omega) _ (Lib.hid rfl) (R32.crc0 _) _ (Lib.hid rfl)
    by_cases he : sumB s = endB s
    · rw [show unsealT s = s.data.toList.take (s.size - 4) by simp [unsealT, ha, hb, he], show unsealC s = 0 by simp [unsealC, ha, hb, he]]
      exact H.1 (beq_iff_eq.2 he)
    · rw [show unsealT s = [] by simp [unsealT, ha, hb, he], show unsealC s = 5 by simp [unsealC, ha, hb, he]]
      exact H.2 (beq_eq_false_iff_ne.2 he)

set_option maxHeartbeats 400000 in
theorem implUnseal_any (s : ByteArray) (w : World) (hs : s.size ≤ maxLen) :
    Calls Try.prog 10 #[.string s] w fun e w' => e = .returned (textOut (unsealT s) 0 (unsealC s)) ∧ Below w.heap.size w w' := by
  by_cases ha : 8000 < s.size
  · rw [show unsealT s = [] from if_pos ha, show unsealC s = 2 from if_pos ha]
    have hd : decide (8000 < (s.size : Int)) = true := by simp; omega
    go_enter Try.func10, Try.ntmps10
    go_wp2_with (go_at_call 25; refine (tooLong_any _ _ hs).mono ?_; rintro e w' ⟨rfl, rfl⟩)
    exact bodyPost_ret (v := textOut [] 0 2) (by simp [results, Try.results10, go_sem, textOut]) rfl ⟨rfl, (Below.refl _ _).alloc (Nat.le_refl _) _⟩
  have hd : decide (8000 < (s.size : Int)) = false := by simp; omega
  by_cases hb : s.size < 4
  · rw [show unsealT s = [] by simp [unsealT, ha, hb], show unsealC s = 4 by simp [unsealC, ha, hb]]
    have hd2 : decide ((s.size : Int) < 4) = true := by simp; omega
    go_enter Try.func10, Try.ntmps10
    go_wp2_with (go_at_call 25; refine (tooLong_any _ _ hs).mono ?_; rintro e w' ⟨rfl, rfl⟩)
    exact bodyPost_ret (v := textOut [] 0 4) (by simp [results, Try.results10, go_sem, textOut]) rfl ⟨rfl, (Below.refl _ _).alloc (Nat.le_refl _) _⟩
  · have H := implUnseal_mid s w (by omega) (by omega) _ (Lib.hid rfl)
    by_cases he : sumB s = endB s
    · rw [show unsealT s = s.data.toList.take (s.size - 4) by simp [unsealT, ha, hb, he], show unsealC s = 0 by simp [unsealC, ha, hb, he]]
      exact H.1 (beq_iff_eq.2 he.symm)
    · rw [show unsealT s = [] by simp [unsealT, ha, hb, he], show unsealC s = 5 by simp [unsealC, ha, hb, he]]
      exact H.2 (beq_eq_false_iff_ne.2 fun h => he h.symm)

set_option maxHeartbeats 400000 in
theorem eqTextOut_same (l : List UInt8) (a c : Int) (w : World) :
    Calls Try.prog 16 #[textOut l a c, textOut l a c] w fun e w' => e = .returned (.bool true) ∧ Below w.heap.size w w' := by
  unfold textOut
  go_enter Try.func16, Try.ntmps16
  go_wp2
  go_ret
  exact ⟨rfl, by go_grown⟩
end Go.Proofs.Ytmimocoeojhjjaa
