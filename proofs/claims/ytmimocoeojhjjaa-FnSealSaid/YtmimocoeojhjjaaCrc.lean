/- What Crc and CrcMore answer, the program's and the model's: the register is turned, each byte goes into it and eight bits out of it, and it is turned again. For every text and every number; nothing that was there is written. -/
import Derived.Test.YtmimocoeojhjjaaText
import Derived.Test.YtmimocoeojhjjaaNameRight
namespace Go.Proofs.Ytmimocoeojhjjaa
open Go.RowKit
set_option linter.unusedVariables false

/-- A number of 32 bits. -/
def R32 (x : Nat) : Prop := x < 4294967296
/-- The register, its last bit gone, turned by the polynomial; and all of it turned. -/
def crcTurn (x : Nat) : Nat := (x / 2) ^^^ 3988292384
def crcFlip (x : Nat) : Nat := x ^^^ 4294967295
/-- One bit out of the register. -/
def crcStep (x : Nat) : Nat := if x % 2 = 1 then crcTurn x else x / 2
def crcSteps : Nat → Nat → Nat
  | 0, x => x
  | k + 1, x => crcSteps k (crcStep x)
/-- One byte into the register. -/
def crcByte (x : Nat) (b : UInt8) : Nat := crcSteps 8 (x ^^^ b.toNat)
def crcList (x : Nat) (l : List UInt8) : Nat := l.foldl crcByte x
/-- The CRC of a text behind one of that CRC. -/
def crcOf (c : Nat) (l : List UInt8) : Nat := crcFlip (crcList (crcFlip c) l)

theorem R32.xor {a b : Nat} (ha : R32 a) (hb : R32 b) : R32 (a ^^^ b) := Nat.xor_lt_two_pow (n := 32) ha hb
theorem R32.flip {a : Nat} (ha : R32 a) : R32 (crcFlip a) := ha.xor (show _ < _ by omega)
theorem R32.turn {a : Nat} (ha : R32 a) : R32 (crcTurn a) := R32.xor (show _ < _ by unfold R32 at ha; omega) (show _ < _ by omega)
theorem R32.half {a : Nat} (ha : R32 a) : R32 (a / 2) := by unfold R32 at *; omega
theorem R32.int {a : Nat} (ha : R32 a) : (0 : Int) ≤ (a : Int) ∧ (a : Int) ≤ 4294967295 := by unfold R32 at ha; omega
theorem R32.step {x : Nat} (h : R32 x) : R32 (crcStep x) := by
  unfold crcStep
  split
  · exact h.turn
  · exact h.half
theorem R32.steps (k : Nat) {x : Nat} (h : R32 x) : R32 (crcSteps k x) := by
  induction k generalizing x with
  | zero => exact h
  | succ k ih => exact ih h.step
theorem R32.of_byte (b : UInt8) : R32 b.toNat := by have := b.toNat_lt; unfold R32; omega
theorem R32.byte {x : Nat} (h : R32 x) (b : UInt8) : R32 (crcByte x b) := R32.steps 8 (h.xor (R32.of_byte b))
theorem R32.list (l : List UInt8) {x : Nat} (h : R32 x) : R32 (crcList x l) := by
  induction l generalizing x with
  | nil => exact h
  | cons b l ih => exact ih (h.byte b)
theorem R32.crc {c : Nat} (h : R32 c) (l : List UInt8) : R32 (crcOf c l) := (R32.list l h.flip).flip
theorem R32.of_int {c : Int} (h0 : 0 ≤ c) (h1 : c ≤ 4294967295) : R32 c.toNat := by unfold R32; omega
theorem crcList_take (x : Nat) (s : ByteArray) (k : Nat) (h : k < s.size) : crcList x (s.data.toList.take (k + 1)) = crcByte (crcList x (s.data.toList.take k)) s[k] := by
  rw [List.take_succ_eq_append_getElem (by simpa using h)]
  simp [crcList, List.foldl_append]
  rfl

theorem xorMax {x : Nat} (h : R32 x) : bits BinOp.xor IntKind.u32 IntKind.u32.max (x : Int) = (crcFlip x : Nat) := by
  have e : IntKind.u32.max = ((4294967295 : Nat) : Int) := by decide
  rw [e, u32_xor_nat _ _ (by omega) h, Nat.xor_comm]
  rfl
theorem xorLast {x : Nat} (h : R32 x) : bits BinOp.xor IntKind.u32 (x : Int) 4294967295 = (crcFlip x : Nat) := by
  have := u32_xor_nat x 4294967295 h (by omega)
  exact this
theorem xorPoly {x : Nat} (h : R32 x) : bits BinOp.xor IntKind.u32 ((x : Int) / 2) 3988292384 = (crcTurn x : Nat) := by
  have := u32_xor_nat (x / 2) 3988292384 h.half (by omega)
  have e : ((x / 2 : Nat) : Int) = (x : Int) / 2 := by omega
  rw [e] at this
  exact this
theorem xorByte {x : Nat} (b : UInt8) (h : R32 x) : bits BinOp.xor IntKind.u32 (x : Int) ((b.toNat : Int) % 4294967296) = ((x ^^^ b.toNat : Nat) : Int) := by
  have hb := b.toNat_lt
  have := u32_xor_nat x b.toNat h (by omega)
  rw [show ((b.toNat : Int) % 4294967296) = (b.toNat : Int) by omega]
  exact this
theorem andOne {x : Nat} (h : R32 x) : bits BinOp.and IntKind.u32 (x : Int) 1 = (x : Int) % 2 := by
  have := u32_and_nat x 1 h (by omega)
  rw [show ((1 : Int)) = ((1 : Nat) : Int) from rfl, this, Nat.and_one_is_mod]
  omega

set_option maxHeartbeats 400000 in
theorem shifted_any (r : Nat) (w : World) (h1 : R32 r) :
    Calls Try.prog 28 #[.int .u32 (r : Int)] w fun e w' => e = .returned (.int .u32 (crcSteps 8 r : Nat)) ∧ w = w' := by
  obtain ⟨R, hR⟩ : ∃ R, crcSteps 8 r = R := ⟨_, rfl⟩
  rw [hR]
  have HR := Lib.hid hR
  clear hR
  go_enter Try.func28, Try.ntmps28
  go_wp2
  go_loop [0, 3] (fun v i => ∃ (x k : Nat), v = .int .u32 (x : Int) ∧ R32 x ∧ k ≤ 8 ∧ i = .int .i64 (k : Int) ∧ crcSteps (8 - k) x = R) (fun _ i => 8 - (intOf i).toNat)
  case atStart => exact ⟨r, 0, rfl, h1, by omega, rfl, HR.out⟩
  case round =>
    obtain ⟨x, k, rfl, hx, hk, rfl, hrest⟩ := hrel
    have HX := Lib.hid hrest
    obtain ⟨hx0, hx1⟩ := hx.int
    clear hrest
    by_cases hlt : k < 8
    · have HS := Lib.hid (show crcSteps (8 - (k + 1)) (crcStep x) = R by
        have := HX.out
        rwa [show 8 - k = (8 - (k + 1)) + 1 by omega, crcSteps] at this)
      have hxp := xorPoly hx
      by_cases hodd : x % 2 = 1
      · have e1 : ((x : Int) % 2 == 1) = true := by simp; omega
        have HC := Lib.hid (show crcStep x = crcTurn x from if_pos hodd)
        have HB := Lib.hid hx.turn
        clear hodd
        go_wp2
        go_round
        case rel => exact ⟨_, k + 1, rfl, HB.out, by omega, by go_num, by rw [← HC.out]; exact HS.out⟩
        case measure => simp [intOf]; omega
      · have e1 : ((x : Int) % 2 == 1) = false := by simp; omega
        have HC := Lib.hid (show crcStep x = x / 2 from if_neg hodd)
        clear hodd
        go_wp2
        go_round
        case rel => exact ⟨x / 2, k + 1, by go_num, hx.half, by omega, by go_num, by rw [← HC.out]; exact HS.out⟩
        case measure => simp [intOf]; omega
    · have hge : 8 ≤ k := by omega
      have HS := Lib.hid (show x = R by
        have := HX.out
        rwa [show 8 - k = 0 by omega, crcSteps] at this)
      clear hlt
      go_wp2
      go_ret
      exact ⟨by rw [← HS.out]; rfl, rfl⟩

set_option maxHeartbeats 400000 in
theorem implCrcMore_any (c : Nat) (s : ByteArray) (w : World) (h1 : R32 c) (hs : s.size ≤ 8000) :
    Calls Try.prog 12 #[.int .i64 (c : Int), .string s] w fun e w' => e = .returned (.int .i64 (crcOf c s.data.toList : Nat)) ∧ w = w' := by
  have hd : decide (8000 < (s.size : Int)) = false := by simp; omega
  obtain ⟨hd0, hd1⟩ := h1.int
  have hx := xorMax h1
  have HB := Lib.hid h1.flip
  go_enter Try.func12, Try.ntmps12
  go_wp2
  go_loop [5, 6] (fun v i => ∃ (x k : Nat), v = .int .u32 (x : Int) ∧ R32 x ∧ k ≤ s.size ∧ i = .int .i64 (k : Int) ∧ x = crcList (crcFlip c) (s.data.toList.take k)) (fun _ i => s.size - (intOf i).toNat)
  case atStart => exact ⟨_, 0, rfl, HB.out, by omega, rfl, rfl⟩
  case round =>
    obtain ⟨x, k, rfl, hx, hk, rfl, hrest⟩ := hrel
    have HX := Lib.hid hrest
    obtain ⟨hx0, hx1⟩ := hx.int
    clear hrest
    by_cases hlt : k < s.size
    · have hxb := xorByte s[k] hx
      have HB := Lib.hid (hx.xor (R32.of_byte s[k]))
      have HC := Lib.hid (hx.byte s[k])
      have HT := Lib.hid (crcList_take (crcFlip c) s k hlt)
      go_wp2_with (go_at_call 28; refine (shifted_any _ _ HB.out).mono ?_; rintro e w' ⟨rfl, rfl⟩)
      go_round
      case rel => exact ⟨_, k + 1, rfl, HC.out, by omega, by go_num, by rw [HT.out, ← HX.out]; rfl⟩
      case measure => simp [intOf]; omega
    · have hge : s.size ≤ k := by omega
      have hxm := xorMax hx
      obtain ⟨hf0, hf1⟩ := hx.flip.int
      have HS := Lib.hid (show crcFlip x = crcOf c s.data.toList by
        rw [HX.out, List.take_of_length_le (by simpa using hge)]
        rfl)
      clear hlt
      go_wp2
      go_ret
      exact ⟨by rw [← HS.out]; rfl, rfl⟩

set_option maxHeartbeats 400000 in
theorem l01Crc_any (c : Nat) (s : ByteArray) (w : World) (h1 : R32 c) (hs : s.size ≤ 8000) :
    Calls Try.prog 24 #[.int .i64 (c : Int), .string s] w fun e w' => e = .returned (.int .i64 (crcOf c s.data.toList : Nat)) ∧ w = w' := by
  obtain ⟨hd0, hd1⟩ := h1.int
  have hx := xorLast h1
  have HB := Lib.hid h1.flip
  go_enter Try.func24, Try.ntmps24
  go_wp2
  go_loop [5, 6, 7] (fun v i _ => ∃ (x k : Nat), v = .int .u32 (x : Int) ∧ R32 x ∧ k ≤ s.size ∧ i = .int .i64 (k : Int) ∧ x = crcList (crcFlip c) (s.data.toList.take k)) (fun _ i _ => s.size - (intOf i).toNat)
  case atStart => exact ⟨_, 0, rfl, HB.out, by omega, rfl, rfl⟩
  case round =>
    obtain ⟨x, k, rfl, hx, hk, rfl, hrest⟩ := hrel
    have HX := Lib.hid hrest
    obtain ⟨hx0, hx1⟩ := hx.int
    clear hrest
    by_cases hlt : k < s.size
    · have hxb := xorByte s[k] hx
      have HB := Lib.hid (hx.xor (R32.of_byte s[k]))
      have HT := Lib.hid (crcList_take (crcFlip c) s k hlt)
      obtain ⟨R, hR⟩ : ∃ R, crcByte x s[k] = R := ⟨_, rfl⟩
      have HC := Lib.hid (hx.byte s[k])
      rw [hR] at HC
      have HR := Lib.hid hR
      clear hR
      go_wp2
      go_loop [5, 7] (fun v i => ∃ (y j : Nat), v = .int .u32 (y : Int) ∧ R32 y ∧ j ≤ 8 ∧ i = .int .i64 (j : Int) ∧ crcSteps (8 - j) y = R) (fun _ i => 8 - (intOf i).toNat)
      case atStart => exact ⟨_, 0, rfl, HB.out, by omega, rfl, HR.out⟩
      case round =>
        clear hxb HB
        obtain ⟨y, j, rfl, hy, hj, rfl, hrest⟩ := hrel
        have HY := Lib.hid hrest
        obtain ⟨hy0, hy1⟩ := hy.int
        clear hrest
        by_cases hlj : j < 8
        · have HS := Lib.hid (show crcSteps (8 - (j + 1)) (crcStep y) = R by
            have := HY.out
            rwa [show 8 - j = (8 - (j + 1)) + 1 by omega, crcSteps] at this)
          have hxp := xorPoly hy
          have hand := andOne hy
          by_cases hodd : y % 2 = 1
          · have e1 : ((y : Int) % 2 == 1) = true := by simp; omega
            have HC := Lib.hid (show crcStep y = crcTurn y from if_pos hodd)
            have HB := Lib.hid hy.turn
            clear hodd
            go_wp2
            go_round
            case rel => exact ⟨_, j + 1, rfl, HB.out, by omega, by go_num, by rw [← HC.out]; exact HS.out⟩
            case measure => simp [intOf]; omega
          · have e1 : ((y : Int) % 2 == 1) = false := by simp; omega
            have HC := Lib.hid (show crcStep y = y / 2 from if_neg hodd)
            clear hodd
            go_wp2
            go_round
            case rel => exact ⟨y / 2, j + 1, by go_num, hy.half, by omega, by go_num, by rw [← HC.out]; exact HS.out⟩
            case measure => simp [intOf]; omega
        · have hge : 8 ≤ j := by omega
          have HS := Lib.hid (show y = R by
            have := HY.out
            rwa [show 8 - j = 0 by omega, crcSteps] at this)
          clear hlj
          go_wp2
          go_round
          case rel => exact ⟨y, k + 1, rfl, hy, by omega, by go_num, by rw [HT.out, ← HX.out, HR.out]; exact HS.out⟩
          case measure => simp [intOf]; omega
    · have hge : s.size ≤ k := by omega
      have hxm := xorLast hx
      obtain ⟨hf0, hf1⟩ := hx.flip.int
      have HS := Lib.hid (show crcFlip x = crcOf c s.data.toList by
        rw [HX.out, List.take_of_length_le (by simpa using hge)]
        rfl)
      clear hlt
      go_wp2
      go_ret
      exact ⟨by rw [← HS.out]; rfl, rfl⟩

/-- What CrcMore answers. -/
def crcMoreI (c : Int) (s : ByteArray) : Int := if 8000 < s.size ∨ c < 0 ∨ 4294967295 < c then 0 else (crcOf c.toNat s.data.toList : Nat)

set_option maxHeartbeats 400000 in
theorem implCrcMore_all (c : Int) (s : ByteArray) (w : World) (hs : s.size ≤ maxLen) :
    Calls Try.prog 12 #[.int .i64 c, .string s] w fun e w' => e = .returned (.int .i64 (crcMoreI c s)) ∧ w = w' := by
  by_cases ha : 8000 < s.size
  · have HO := Lib.hid (show crcMoreI c s = 0 from if_pos (.inl ha))
    go_enter Try.func12, Try.ntmps12
    go_wp2_with (go_at_call 25; refine (tooLong_any _ _ hs).mono ?_; rintro e w' ⟨rfl, rfl⟩)
    go_ret
    exact ⟨by rw [HO.out]; rfl, rfl⟩
  have hd : decide (8000 < (s.size : Int)) = false := by simp; omega
  by_cases hb : c < 0
  · have HO := Lib.hid (show crcMoreI c s = 0 from if_pos (.inr (.inl hb)))
    go_enter Try.func12, Try.ntmps12
    go_wp2_with (go_at_call 25; refine (tooLong_any _ _ hs).mono ?_; rintro e w' ⟨rfl, rfl⟩)
    go_ret
    exact ⟨by rw [HO.out]; rfl, rfl⟩
  by_cases hc : 4294967295 < c
  · have HO := Lib.hid (show crcMoreI c s = 0 from if_pos (.inr (.inr hc)))
    have hc' : decide (4294967295 < c) = true := by simp; omega
    go_enter Try.func12, Try.ntmps12
    go_wp2_with (go_at_call 25; refine (tooLong_any _ _ hs).mono ?_; rintro e w' ⟨rfl, rfl⟩)
    go_ret
    exact ⟨by rw [HO.out]; rfl, rfl⟩
  · rw [show crcMoreI c s = (crcOf c.toNat s.data.toList : Nat) from if_neg (by omega)]
    have := implCrcMore_any c.toNat s w (R32.of_int (by omega) (by omega)) (by omega)
    rwa [show ((c.toNat : Nat) : Int) = c by omega] at this

set_option maxHeartbeats 400000 in
theorem specCrcMore_all (c : Int) (s : ByteArray) (w : World) (hs : s.size ≤ maxLen) :
    Calls Try.prog 13 #[.int .i64 c, .string s] w fun e w' => e = .returned (.int .i64 (crcMoreI c s)) ∧ w = w' := by
  by_cases ha : 8000 < s.size
  · have HO := Lib.hid (show crcMoreI c s = 0 from if_pos (.inl ha))
    have hd : decide (8000 < (s.size : Int)) = true := by simp; omega
    unfold maxLen at hs
    go_enter Try.func13, Try.ntmps13
    go_wp2
    go_ret
    exact ⟨by rw [HO.out]; rfl, rfl⟩
  have hd : decide (8000 < (s.size : Int)) = false := by simp; omega
  by_cases hb : c < 0
  · have HO := Lib.hid (show crcMoreI c s = 0 from if_pos (.inr (.inl hb)))
    go_enter Try.func13, Try.ntmps13
    go_wp2
    go_ret
    exact ⟨by rw [HO.out]; rfl, rfl⟩
  by_cases hc : 4294967295 < c
  · have HO := Lib.hid (show crcMoreI c s = 0 from if_pos (.inr (.inr hc)))
    have hc' : decide (4294967295 < c) = true := by simp; omega
    go_enter Try.func13, Try.ntmps13
    go_wp2
    go_ret
    exact ⟨by rw [HO.out]; rfl, rfl⟩
  · have HO := Lib.hid (show crcMoreI c s = (crcOf c.toNat s.data.toList : Nat) from if_neg (by omega))
    have hc' : decide (4294967295 < c) = false := by simp; omega
    have H := l01Crc_any c.toNat s w (R32.of_int (by omega) (by omega)) (by omega)
    rw [show ((c.toNat : Nat) : Int) = c by omega] at H
    have HH := Lib.hid H
    clear H
    go_enter Try.func13, Try.ntmps13
    go_wp2_with (go_at_call 24; refine HH.out.mono ?_; rintro e w' ⟨rfl, rfl⟩)
    go_ret
    exact ⟨by rw [HO.out]; rfl, rfl⟩

set_option maxHeartbeats 400000 in
theorem implCrc_all (s : ByteArray) (w : World) (hs : s.size ≤ maxLen) :
    Calls Try.prog 14 #[.string s] w fun e w' => e = .returned (.int .i64 (crcMoreI 0 s)) ∧ w = w' := by
  go_enter Try.func14, Try.ntmps14
  go_wp2_with (go_at_call 12; refine (implCrcMore_all _ _ _ hs).mono ?_; rintro e w' ⟨rfl, rfl⟩)
  go_ret
  exact ⟨rfl, rfl⟩

set_option maxHeartbeats 400000 in
theorem specCrc_all (s : ByteArray) (w : World) (hs : s.size ≤ maxLen) :
    Calls Try.prog 27 #[.string s] w fun e w' => e = .returned (.int .i64 (crcMoreI 0 s)) ∧ w = w' := by
  by_cases ha : 8000 < s.size
  · have HO := Lib.hid (show crcMoreI 0 s = 0 from if_pos (.inl ha))
    have hd : decide (8000 < (s.size : Int)) = true := by simp; omega
    unfold maxLen at hs
    go_enter Try.func27, Try.ntmps27
    go_wp2
    go_ret
    exact ⟨by rw [HO.out]; rfl, rfl⟩
  · have hd : decide (8000 < (s.size : Int)) = false := by simp; omega
    have HO := Lib.hid (show crcMoreI 0 s = (crcOf 0 s.data.toList : Nat) from if_neg (by omega))
    have HH := Lib.hid (l01Crc_any 0 s w (show 0 < 4294967296 by omega) (by omega))
    go_enter Try.func27, Try.ntmps27
    go_wp2_with (go_at_call 24; refine HH.out.mono ?_; rintro e w' ⟨rfl, rfl⟩)
    go_ret
    exact ⟨by rw [HO.out]; rfl, rfl⟩
end Go.Proofs.Ytmimocoeojhjjaa
