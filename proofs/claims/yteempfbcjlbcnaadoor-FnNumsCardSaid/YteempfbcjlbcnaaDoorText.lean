/- What PutText answers, the program's and the model's: the number of its bytes and the text behind it, nothing of a text of more than 8000 bytes. For every text; nothing that was there is written. -/
import Derived.Test.YteempfbcjlbcnaaDoorPutNum
import Derived.Test.YteempfbcjlbcnaaDoorJoined
import Derived.Test.YteempfbcjlbcnaaDoorLong
namespace Go.Proofs.YteempfbcjlbcnaaDoor
open Go.RowKit
set_option linter.unusedVariables false
/-- The bytes of a text behind its length. -/
def putTextB (s : ByteArray) : List UInt8 := if 8000 < s.size then [] else numBytes (s.size : Int) ++ s.data.toList
set_option maxHeartbeats 400000 in
theorem specPutText_any (s : ByteArray) (w : World) (hs : s.size ≤ maxLen) :
    Calls Tryd.prog 10 #[.string s] w fun e w' => e = .returned (.string ⟨(putTextB s).toArray⟩) ∧ Below w.heap.size w w' := by
  by_cases h : 8000 < s.size
  · unfold maxLen at hs
    have HO := Lib.hid (show putTextB s = [] from if_pos h)
    go_enter Tryd.func10, Tryd.ntmps10
    go_wp2
    go_ret
    exact ⟨by rw [HO.out]; rfl, Below.refl _ _⟩
  · have HO := Lib.hid (show putTextB s = numBytes (s.size : Int) ++ s.data.toList from if_neg h)
    have hn := numBytes_len (s.size : Int)
    obtain ⟨l, hl⟩ : ∃ l, numBytes (s.size : Int) = l := ⟨_, rfl⟩
    rw [hl] at HO hn
    have HL := Lib.hid hl
    clear hl
    have hd : decide (8000 < (s.size : Int)) = false := by simp; omega
    go_enter Tryd.func10, Tryd.ntmps10
    go_wp2_with fail
    refine (specPutNum_as HL _ (by omega) (by omega)).mono ?_
    rintro e w' ⟨rfl, hb⟩
    clear hs
    go_wp2_with fail
    go_ret
    exact ⟨by rw [HO.out, ← mk_append]; rfl, hb⟩

set_option maxHeartbeats 400000 in
theorem implPutText_any (s : ByteArray) (w : World) (hs : s.size ≤ maxLen) :
    Calls Tryd.prog 9 #[.string s] w fun e w' => e = .returned (.string ⟨(putTextB s).toArray⟩) ∧ Below w.heap.size w w' := by
  by_cases h : 8000 < s.size
  · have HO := Lib.hid (show putTextB s = [] from if_pos h)
    go_enter Tryd.func9, Tryd.ntmps9
    go_wp2_with (go_at_call 16; refine (tooLong_any _ _ hs).mono ?_; rintro e w' ⟨rfl, rfl⟩)
    go_ret
    exact ⟨by rw [HO.out]; rfl, Below.refl _ _⟩
  · have HO := Lib.hid (show putTextB s = numBytes (s.size : Int) ++ s.data.toList from if_neg h)
    have hn := numBytes_len (s.size : Int)
    obtain ⟨l, hl⟩ : ∃ l, numBytes (s.size : Int) = l := ⟨_, rfl⟩
    rw [hl] at HO hn
    have HL := Lib.hid hl
    clear hl
    have hsz : (ByteArray.mk l.toArray).size ≤ 1000000 := by simp [ByteArray.size]; omega
    have HZ := Lib.hid hsz
    clear hsz
    have hd : decide (8000 < (s.size : Int)) = false := by simp; omega
    go_enter Tryd.func9, Tryd.ntmps9
    go_wp2_with (first
      | (go_at_call 16; refine (tooLong_any _ _ hs).mono ?_; rintro e w' ⟨rfl, rfl⟩)
      | (go_at_call 5; refine (implPutNum_as HL _ (by omega) (by omega)).mono ?_; rintro e w1 ⟨rfl, hb1⟩)
      | (go_at_call 22; refine (joined_any _ _ _ HZ.out (by omega)).mono ?_; rintro e w2 ⟨rfl, hb2⟩))
    go_ret
    exact ⟨by rw [HO.out]; rfl, hb1.trans (hb2.mono hb1.size)⟩
end Go.Proofs.YteempfbcjlbcnaaDoor
