/- What Seal answers, the program's and the model's: the text and the four bytes of its CRC behind it, the lowest first; nothing of a text of more than 7996 bytes. For every text; nothing that was there is written. -/
import Derived.Test.YtmimocoeojhjjaaCrc
import Derived.Test.YtmimocoeojhjjaaLowFirst
import Derived.Deep.RegionWith
namespace Go.Proofs.Ytmimocoeojhjjaa
open Go.RowKit
set_option linter.unusedVariables false

/-- The four bytes of a number, the lowest first. -/
def fourB (c : Nat) : List UInt8 := [UInt8.ofNat (c % 256), UInt8.ofNat (c / 256 % 256), UInt8.ofNat (c / 65536 % 256), UInt8.ofNat (c / 16777216)]
theorem fourB_cells {c : Nat} (h : R32 c) : bcells (fourB c) = [.int .u8 ((c : Int) % 256), .int .u8 ((c : Int) / 256 % 256), .int .u8 ((c : Int) / 65536 % 256), .int .u8 ((c : Int) / 16777216)] := by
  unfold R32 at h
  simp [bcells, fourB]
  omega
theorem fourB_len (c : Nat) : (fourB c).length = 4 := rfl

set_option maxHeartbeats 400000 in
theorem four_any (c : Nat) (w : World) (h : R32 c) :
    Calls Try.prog 23 #[.int .i64 (c : Int)] w fun e w' => e = .returned (.string ⟨(fourB c).toArray⟩) ∧ Below w.heap.size w w' := by
  obtain ⟨hd0, hd1⟩ := h.int
  obtain ⟨l, hl⟩ : ∃ l, fourB c = l := ⟨_, rfl⟩
  have hc := conv_row (P := Try.prog) (heap_alloc_new w (.cells #[.int .u8 ((c : Int) % 256), .int .u8 ((c : Int) / 256 % 256), .int .u8 ((c : Int) / 65536 % 256), .int .u8 ((c : Int) / 16777216)] 5)) (l := l) 4 (by rw [← hl]; rfl) (by rw [← hl, fourB_cells h]; rfl) 22 9 Try.underlying22 Try.underlying5 Try.underlying9
  rw [hl]
  clear hl
  go_enter Try.func23, Try.ntmps23
  go_wp2
  go_ret
  exact ⟨rfl, (Below.refl _ _).alloc (Nat.le_refl _) _⟩

theorem crcMoreI_small {s : ByteArray} (hs : s.size ≤ 8000) : crcMoreI 0 s = (crcOf 0 s.data.toList : Nat) := if_neg (by omega)
theorem R32.crc0 (l : List UInt8) : R32 (crcOf 0 l) := R32.crc (show 0 < 4294967296 by omega) l

set_option maxHeartbeats 1000000 in
theorem sumOf_any (s : ByteArray) (w : World) (hs : s.size ≤ 8000) :
    Calls Try.prog 22 #[.string s] w fun e w' => e = .returned (.string ⟨(fourB (crcOf 0 s.data.toList)).toArray⟩) ∧ Below w.heap.size w w' := by
  have hs' : s.size ≤ maxLen := by unfold maxLen; omega
  have HE := Lib.hid (crcMoreI_small hs)
  have hr := R32.crc0 s.data.toList
  generalize crcOf 0 s.data.toList = c at *
  obtain ⟨hd0, hd1⟩ := hr.int
  obtain ⟨l, hl⟩ : ∃ l, fourB c = l := ⟨_, rfl⟩
  have HL := Lib.hid (show 4 = l.length by rw [← hl]; rfl)
  have hcs := fourB_cells hr
  rw [hl] at hcs ⊢
  have HC := Lib.hid hcs
  clear hcs
  clear hl hr hs
  have hU : (w.alloc (.cells #[.int .u8 0, .int .u8 0, .int .u8 0, .int .u8 0] 49)).drew.heap[w.heap.size]? = some (.cells [.int .u8 0, .int .u8 0, .int .u8 0, .int .u8 0].toArray 49 (0, 0)) := heap_alloc_new w _
  have HP := Lib.hid (putLowFirst_any w.heap.size 4 (c : Int) _ _ _ _ _ _ _ hU hd0 hd1)
  have HS4 := Lib.hid (set4_heap (k := (c : Int)) hU)
  have hb : Below w.heap.size w (set4 (w.alloc (.cells #[.int .u8 0, .int .u8 0, .int .u8 0, .int .u8 0] 49)).drew w.heap.size (c : Int)) := set4_below ((Below.refl _ _).alloc (Nat.le_refl _) _).drew (Nat.le_refl _)
  have HB := Lib.hid hb
  clear hU hb
  go_enter Try.func22, Try.ntmps22
  go_wp2_with fail
  go_region_with (first
    | (go_at_call 14; refine (implCrc_all _ _ hs').mono ?_; rw [HE.out]; rintro e w1 ⟨rfl, rfl⟩)
    | (go_at_call 29; refine HP.out.mono ?_; rintro e w2 ⟨rfl, rfl⟩))
  have hcv := conv_row (P := Try.prog) HS4.out (l := l) 4 HL.out (by rw [HC.out]; rfl) 22 9 Try.underlying22 Try.underlying5 Try.underlying9 4
  go_wp2
  go_ret
  exact ⟨rfl, HB.out⟩

/-- The bytes of a sealed text. -/
def sealB (s : ByteArray) : List UInt8 := if 7996 < s.size then [] else s.data.toList ++ fourB (crcOf 0 s.data.toList)

theorem append_mk (s : ByteArray) (l : List UInt8) : s ++ (ByteArray.mk l.toArray) = ⟨(s.data.toList ++ l).toArray⟩ := by
  have e : s = ByteArray.mk s.data.toList.toArray := by simp
  rw [e, ByteArray.mk_append_mk]

set_option maxHeartbeats 400000 in
theorem specSeal_any (s : ByteArray) (w : World) (hs : s.size ≤ maxLen) :
    Calls Try.prog 8 #[.string s] w fun e w' => e = .returned (.string ⟨(sealB s).toArray⟩) ∧ Below w.heap.size w w' := by
  by_cases h : 7996 < s.size
  · have HO := Lib.hid (show sealB s = [] from if_pos h)
    have hd : decide (7996 < (s.size : Int)) = true := by simp; omega
    unfold maxLen at hs
    go_enter Try.func8, Try.ntmps8
    go_wp2
    go_ret
    exact ⟨by rw [HO.out]; rfl, Below.refl _ _⟩
  · have HO := Lib.hid (show sealB s = s.data.toList ++ fourB (crcOf 0 s.data.toList) from if_neg h)
    have hd : decide (7996 < (s.size : Int)) = false := by simp; omega
    have HC := Lib.hid (l01Crc_any 0 s w (show 0 < 4294967296 by omega) (by omega))
    have hr := R32.crc0 s.data.toList
    generalize crcOf 0 s.data.toList = c at *
    have HF := Lib.hid (four_any c w hr)
    have hl := fourB_len c
    generalize fourB c = l at *
    have hl4 : l.length ≤ 4 := by omega
    clear hl
    go_enter Try.func8, Try.ntmps8
    go_wp2_with (first | (go_at_call 24; refine HC.out.mono ?_; rintro e w' ⟨rfl, rfl⟩) | (go_at_call 23; refine HF.out.mono ?_; rintro e w' ⟨rfl, hb⟩))
    go_ret
    exact ⟨by rw [HO.out, ← append_mk]; rfl, hb⟩

set_option maxHeartbeats 400000 in
theorem implSeal_any (s : ByteArray) (w : World) (hs : s.size ≤ maxLen) :
    Calls Try.prog 7 #[.string s] w fun e w' => e = .returned (.string ⟨(sealB s).toArray⟩) ∧ Below w.heap.size w w' := by
  by_cases h : 7996 < s.size
  · have HO := Lib.hid (show sealB s = [] from if_pos h)
    have hd : decide (7996 < (s.size : Int)) = true := by simp; omega
    unfold maxLen at hs
    go_enter Try.func7, Try.ntmps7
    go_wp2
    go_ret
    exact ⟨by rw [HO.out]; rfl, Below.refl _ _⟩
  · have HO := Lib.hid (show sealB s = s.data.toList ++ fourB (crcOf 0 s.data.toList) from if_neg h)
    have hd : decide (7996 < (s.size : Int)) = false := by simp; omega
    have HC := Lib.hid (sumOf_any s w (by omega))
    have hl := fourB_len (crcOf 0 s.data.toList)
    generalize fourB (crcOf 0 s.data.toList) = l at *
    have hl4 : l.length ≤ 4 := by omega
    have HJ := Lib.hid (show s.size ≤ 1000000 ∧ (ByteArray.mk l.toArray).size ≤ 1000000 from ⟨by omega, by show l.toArray.size ≤ _; rw [List.size_toArray]; omega⟩)
    clear hl
    go_enter Try.func7, Try.ntmps7
    go_wp2_with (first | (go_at_call 22; refine HC.out.mono ?_; rintro e w1 ⟨rfl, hb1⟩) | (go_at_call 21; refine (joined_any _ _ _ HJ.out.1 HJ.out.2).mono ?_; rintro e w2 ⟨rfl, hb2⟩))
    go_ret
    exact ⟨by rw [HO.out]; rfl, hb1.trans (hb2.mono hb1.size)⟩
end Go.Proofs.Ytmimocoeojhjjaa
