/- Bits put into a text: the model's. Nothing that was there is written. -/
import Derived.Test.YtanijfmfjabmfaaBitsStraight
import Derived.Test.YtanijfmfjabmfaaConv
import Derived.Test.YtanijfmfjabmfaaJoined
import Derived.BigQuiet
namespace Go.Proofs.Ytanijfmfjabmfaa
open Go.RowKit
set_option linter.unusedVariables false

theorem turn_cast {b p n q c d : Nat} (hq : b / p = q) (hc : q % 2 = c) (hd : n % 2 = d) : turnB b p n = b - c * p + d * p := by
  unfold turnB
  rw [hq, hc, hd]
set_option maxRecDepth 100000 in
set_option maxHeartbeats 4000000 in
theorem l07Put_any (s : ByteArray) (a w n0 : Nat) (W : World) (hs : s.size ≤ 8000) (ha : a ≤ 1800) (hw : 1 ≤ w) (hw2 : w ≤ 32) (hin : a + w ≤ 8 * s.size) (hn0 : n0 < 4294967296) :
    Calls Try.prog 207 #[.string s, .int .i64 (a : Int), .int .i64 (w : Int), .int .i64 (n0 : Int)] W fun e W' => e = .returned (.string ⟨(putB (putBit s.data.toList a w n0) s.size).toArray⟩) ∧ Below W.heap.size W W' := by
  obtain ⟨l, hl⟩ : ∃ l, s.data.toList = l := ⟨_, rfl⟩
  have hse : s = ⟨l.toArray⟩ := by rw [← hl]
  have hsz : s.size = l.length := by rw [← hl]; rfl
  have HSE := Lib.hid (show Value.string s = .string ⟨l.toArray⟩ from congrArg Value.string hse)
  rw [hl]
  rw [hsz] at hs hin ⊢
  clear hse hl hsz
  have HIN := Lib.hid hin
  go_enter Try.func207, Try.ntmps207
  go_wp2_with (refine wpList_bytes rfl (.tmp 14) 9 22 5 rfl Try.underlying9 Try.underlying22 Try.underlying5 l HSE.out (fun cap u hin2 hb hz hcap => ?_))
  have hG : W.heap.size ≤ W.heap.size := Nat.le_refl _
  have HI := Lib.hid hin2
  have HB := Lib.hid hb
  have HZ := Lib.hid hz
  obtain ⟨G, eG⟩ : ∃ G, W.heap.size = G := ⟨_, rfl⟩
  rw [eG] at HI HZ hG ⊢
  clear hin2 hb hz
  go_loopw [3, 10, 11, 12, 13] (fun n j _ _ _ wr => ∃ k m : Nat, j = .int .i64 (k : Int) ∧ n = .int .i64 (m : Int) ∧ k ≤ w ∧ m = n0 / 2 ^ k ∧ BytesIn wr G (putB (putBit l a k n0) l.length) ∧ Below W.heap.size W wr ∧ G < wr.heap.size) (fun _ j _ _ _ _ => w - (intOf j).toNat)
  case atStart => exact ⟨0, n0, rfl, rfl, Nat.zero_le _, by simp, by rw [putBit_zero, putB_old]; exact HI.out, HB.out, HZ.out⟩
  case round =>
    obtain ⟨k, m, rfl, rfl, hk, hm, hin2, hb, hz⟩ := hrel
    have HM := Lib.hid hm
    have HI2 := Lib.hid hin2
    have HB2 := Lib.hid hb
    have HZ2 := Lib.hid hz
    have hm2 : m < 4294967296 := by rw [hm]; exact Nat.lt_of_le_of_lt (Nat.div_le_self _ _) hn0
    clear hm hin2 hb hz HI HB HZ
    by_cases hkw : k < w
    · have hin3 : a + k < 8 * l.length := by omega
      have HST := Lib.hid (putB_step l (n := n0) hin3)
      rw [← HM.out] at HST
      obtain ⟨L, hL⟩ : ∃ L, putB (putBit l a k n0) l.length = L := ⟨_, rfl⟩
      have hLl : L.length = l.length := by rw [← hL, putB_length]
      rw [hL] at HST HI2
      obtain ⟨L2, hL2⟩ : ∃ L2, putB (putBit l a (k + 1) n0) l.length = L2 := ⟨_, rfl⟩
      rw [hL2] at HST
      have HL2 := Lib.hid hL2
      obtain ⟨i, hi⟩ : ∃ i, a + k = i := ⟨_, rfl⟩
      have e2 : (a : Int) + (k : Int) = (i : Int) := by omega
      rw [hi] at HST hin3
      obtain ⟨u, hu⟩ : ∃ u, i / 8 = u := ⟨_, rfl⟩
      obtain ⟨e, he⟩ : ∃ e, i % 8 = e := ⟨_, rfl⟩
      have he8 : e < 8 := by omega
      have hul : u < L.length := by omega
      obtain ⟨cu, fu⟩ := HI2.out u hul
      obtain ⟨bt, hbt⟩ : ∃ bt, L[u] = bt := ⟨_, rfl⟩
      have hgd : L[u]?.getD 0 = bt := by rw [List.getElem?_eq_getElem hul, ← hbt]; rfl
      rw [hbt] at cu
      rw [hu, he, hgd] at HST
      have hb8 := byte_lt bt
      obtain ⟨b, hb⟩ : ∃ b, bt.toNat = b := ⟨_, rfl⟩
      rw [hb] at HST cu hb8
      obtain ⟨p, hp⟩ : ∃ p, 2 ^ e = p := ⟨_, rfl⟩
      have hp3 : p = 1 ∨ p = 2 ∨ p = 4 ∨ p = 8 ∨ p = 16 ∨ p = 32 ∨ p = 64 ∨ p = 128 := by rw [← hp]; exact pow8 e he8
      rw [hp] at HST
      have hp0 : (0 : Int) ≤ (e : Int) := by omega
      have hp1 : (e : Int) ≤ 32 := by omega
      have HP := fun W => Lib.hid (l07Pow_any (e : Int) W hp0 hp1)
      have hpe : powI (e : Int) = ((2 ^ e : Nat) : Int) := rfl
      rw [hpe, hp] at HP
      have du : (i : Int) / 8 = (u : Int) := by omega
      have de : (i : Int) % 8 = (e : Int) := by omega
      obtain ⟨q, hq⟩ : ∃ q, b / p = q := ⟨_, rfl⟩
      obtain ⟨c, hc⟩ : ∃ c, q % 2 = c := ⟨_, rfl⟩
      obtain ⟨d, hd⟩ : ∃ d, m % 2 = d := ⟨_, rfl⟩
      rw [turn_cast hq hc hd] at HST
      have hqb : q * p ≤ b := by rw [← hq]; exact Nat.div_mul_le_self _ _
      have hx0 : c * p ≤ b := Nat.le_trans (Nat.mul_le_mul_right _ (by omega)) hqb
      have hlt := turnB_lt (b := b) (p := p) (n := m) hb8 hp3
      rw [turn_cast hq hc hd] at hlt
      obtain ⟨x, hx⟩ : ∃ x, c * p = x := ⟨_, rfl⟩
      obtain ⟨y, hy⟩ : ∃ y, d * p = y := ⟨_, rfl⟩
      have hqi : (b : Int) / (p : Int) = (q : Int) := by rw [← hq]; simp
      have hci : (q : Int) % 2 = (c : Int) := by omega
      have hdi : (m : Int) % 2 = (d : Int) := by omega
      have hxi : (c : Int) * (p : Int) = (x : Int) := by rw [← hx]; simp
      have hyi : (d : Int) * (p : Int) = (y : Int) := by rw [← hy]; simp
      have hmi : (m : Int) / 2 = ((m / 2 : Nat) : Int) := by omega
      obtain ⟨m', hm'⟩ : ∃ m', m / 2 = m' := ⟨_, rfl⟩
      rw [hm'] at hmi
      rw [hx, hy] at HST hlt
      rw [hx] at hx0
      have hp128 : p ≤ 128 := by omega
      have hpp : (0 : Int) < (p : Int) := by omega
      have hpz : ¬ (p : Int) = 0 := by omega
      have hq256 : q < 256 := by rw [← hq]; exact Nat.lt_of_le_of_lt (Nat.div_le_self _ _) hb8
      have hy128 : y ≤ 128 := by
        rw [← hy]
        rcases (show d = 0 ∨ d = 1 by omega) with h | h <;> rw [h] <;> omega
      have hki : (k : Int) < (w : Int) := by omega
      obtain ⟨r, hr⟩ : ∃ r, UInt8.ofNat (b - x + y) = r := ⟨_, rfl⟩
      have hrn : r.toNat = b - x + y := by rw [← hr]; exact ofNat_toNat hlt
      rw [hr] at HST
      have hri : (b : Int) - (x : Int) + (y : Int) = (r.toNat : Int) := by omega
      have hr8 := byte_lt r
      have HMM := Lib.hid hm'
      have hlr : IntKind.u8.wrap ((r.toNat : Nat) : Int) = (r.toNat : Int) := wraps_u8 _ (by omega) (by omega)
      have HSE2 := Lib.hid hLl
      clear hm' hr hrn hx hy hq hc hd hbt hgd hb hp3 hp hpe hu he hi hL hqb hlt hL2
      have hui : (u : Int) < (l.length : Int) := by omega
      have hu0 : (0 : Int) ≤ (u : Int) := by omega
      go_wp2_with (go_at_call 181; refine (HP _).out.mono ?_; rintro e' w' ⟨rfl, rfl⟩)
      go_roundw
      case rel =>
        refine ⟨k + 1, m', by simp, rfl, by omega, ?_, ?_, HB2.out.setCell (p := ⟨G, u, none⟩) (Nat.le_of_eq eG) _, ?_⟩
        · rw [← HMM.out, HM.out, Nat.pow_succ, Nat.div_div_eq_div_mul]
        · rw [HL2.out, HST.out]
          exact HI2.out.set u hul r
        · have := HZ2.out
          simpa [World.setCell] using this
      case measure => first | (simp [intOf]; omega) | simp [intOf]
    · have hkw2 : k = w := by omega
      subst hkw2
      have hcv := HI2.out.conv (P := Try.prog) 22 9 5 Try.underlying22 Try.underlying5 Try.underlying9 l.length (putB_length _ _).symm cap
      have HBG : Below G W wr := eG ▸ HB2.out
      obtain ⟨L, hL⟩ : ∃ L, putB (putBit l a k n0) l.length = L := ⟨_, rfl⟩
      rw [hL] at hcv
      have HL := Lib.hid hL
      clear hL
      have hki : ¬ (k : Int) < (k : Int) := by omega
      go_wp2
      go_ret
      exact ⟨by rw [HL.out]; rfl, HBG⟩

theorem putI_big {s : ByteArray} {a w n : Int} (h : 8000 < s.size) : putI s a w n = [] := if_pos h
theorem putI_off {s : ByteArray} {a w n : Int} (h : ¬ 8000 < s.size) (h2 : hasB s a w = false) : putI s a w n = s.data.toList := by
  unfold putI
  rw [if_neg h, h2]
  rfl
theorem putI_off2 {s : ByteArray} {a w n : Int} (h : ¬ 8000 < s.size) (h2 : inB 0 (powI w - 1) n = false) : putI s a w n = s.data.toList := by
  unfold putI
  rw [if_neg h, h2, Bool.and_false]
  rfl
theorem putI_on {s : ByteArray} {a w n : Nat} (h : ¬ 8000 < s.size) (h2 : hasB s a w = true) (h3 : inB 0 (powI w - 1) n = true) : putI s a w n = putB (putBit s.data.toList a w n) s.size := by
  unfold putI
  rw [if_neg h, h2, h3]
  simp
theorem bits_nat2 {s : ByteArray} {a w : Int} (h : hasB s a w = true) : ∃ x y : Nat, a = (x : Int) ∧ w = (y : Int) ∧ x ≤ 1800 ∧ 1 ≤ y ∧ y ≤ 32 ∧ x + y ≤ 8 * s.size := by
  obtain ⟨h1, h2⟩ := hasB_of h
  obtain ⟨h3, h4, h5, h6⟩ := fieldB_of h1
  exact ⟨a.toNat, w.toNat, by omega, by omega, by omega, by omega, by omega, by omega⟩
theorem text_self (s : ByteArray) : Value.string s = .string ⟨s.data.toList.toArray⟩ := by simp
end Go.Proofs.Ytanijfmfjabmfaa
