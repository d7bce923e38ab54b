/- Bits of a text, numbers made of bits, bits put into a text, and what a field's numbers mean: over lists and numbers alone. -/
import Derived.Test.YtanijfmfjabmfaaOwn
import Derived.Test.YtanijfmfjabmfaaBroad
namespace Go.Proofs.Ytanijfmfjabmfaa
open Go.RowKit
set_option linter.unusedVariables false

/-- Bit i of a row of bytes. -/
def bitL (l : List UInt8) (i : Nat) : Nat := (l[i / 8]?.getD 0).toNat / 2 ^ (i % 8) % 2
/-- The number of w bits from place a on, the lowest first. -/
def numOf (f : Nat → Nat) (a : Nat) : Nat → Nat
  | 0 => 0
  | w + 1 => f a + 2 * numOf f (a + 1) w
theorem numOf_high (f : Nat → Nat) (w : Nat) : ∀ a, numOf f a (w + 1) = numOf f a w + f (a + w) * 2 ^ w := by
  induction w with
  | zero => intro a; simp [numOf]
  | succ w ih =>
    intro a
    show f a + 2 * numOf f (a + 1) (w + 1) = f a + 2 * numOf f (a + 1) w + _
    rw [ih (a + 1), Nat.pow_succ, show a + 1 + w = a + (w + 1) by omega, Nat.mul_add, ← Nat.mul_assoc (f (a + (w + 1))), Nat.mul_comm (f (a + (w + 1)) * 2 ^ w) 2]
    omega
theorem numOf_congr {f g : Nat → Nat} (w : Nat) : ∀ a, (∀ i, a ≤ i → i < a + w → f i = g i) → numOf f a w = numOf g a w := by
  induction w with
  | zero => intro a h; rfl
  | succ w ih =>
    intro a h
    show f a + 2 * numOf f (a + 1) w = g a + 2 * numOf g (a + 1) w
    rw [h a (Nat.le_refl _) (by omega), ih (a + 1) (fun i h1 h2 => h i (by omega) (by omega))]
theorem numOf_lt {f : Nat → Nat} (hf : ∀ i, f i < 2) (w : Nat) : ∀ a, numOf f a w < 2 ^ w := by
  induction w with
  | zero => intro a; simp [numOf]
  | succ w ih =>
    intro a
    show f a + 2 * numOf f (a + 1) w < _
    have := hf a
    have := ih (a + 1)
    rw [Nat.pow_succ]
    omega
theorem numOf_bits (w : Nat) : ∀ (a n : Nat), numOf (fun i => n / 2 ^ (i - a) % 2) a w = n % 2 ^ w := by
  induction w with
  | zero => intro a n; simp [numOf, Nat.mod_one]
  | succ w ih =>
    intro a n
    show n / 2 ^ (a - a) % 2 + 2 * numOf (fun i => n / 2 ^ (i - a) % 2) (a + 1) w = _
    have e : numOf (fun i => n / 2 ^ (i - a) % 2) (a + 1) w = numOf (fun i => n / 2 / 2 ^ (i - (a + 1)) % 2) (a + 1) w := by
      refine numOf_congr _ _ fun i h1 h2 => ?_
      show n / 2 ^ (i - a) % 2 = _
      rw [show i - a = (i - (a + 1)) + 1 by omega, Nat.pow_succ, Nat.mul_comm, Nat.div_div_eq_div_mul]
    rw [e, ih, Nat.sub_self, Nat.pow_zero, Nat.div_one, Nat.pow_succ, Nat.mul_comm (2 ^ w) 2, Nat.mod_mul]
theorem numOf_bit {f : Nat → Nat} (hf : ∀ i, f i < 2) (w : Nat) : ∀ (a i : Nat), i < w → numOf f a w / 2 ^ i % 2 = f (a + i) := by
  induction w with
  | zero => intro a i h; omega
  | succ w ih =>
    intro a i h
    show (f a + 2 * numOf f (a + 1) w) / 2 ^ i % 2 = _
    have h0 := hf a
    rcases i with _ | i
    · show (f a + 2 * numOf f (a + 1) w) / 2 ^ 0 % 2 = f a
      rw [Nat.pow_zero, Nat.div_one]; omega
    · rw [Nat.pow_succ, Nat.mul_comm (2 ^ i) 2, ← Nat.div_div_eq_div_mul, show (f a + 2 * numOf f (a + 1) w) / 2 = numOf f (a + 1) w by omega, ih (a + 1) i (by omega)]
      congr 1; omega
/-- One bit of many turned. -/
theorem numOf_set (f g : Nat → Nat) (w : Nat) : ∀ (a i : Nat), i < w → (∀ j, j ≠ a + i → g j = f j) → numOf g a w + f (a + i) * 2 ^ i = numOf f a w + g (a + i) * 2 ^ i := by
  induction w with
  | zero => intro a i h; omega
  | succ w ih =>
    intro a i h hg
    show g a + 2 * numOf g (a + 1) w + _ = f a + 2 * numOf f (a + 1) w + _
    rcases i with _ | i
    · rw [numOf_congr w (a + 1) (f := g) (g := f) (fun j h1 h2 => hg j (by omega))]
      simp
      omega
    · have e := ih (a + 1) i (by omega) (fun j hj => hg j (by omega))
      rw [hg a (by omega), Nat.pow_succ, show a + (i + 1) = a + 1 + i by omega, ← Nat.mul_assoc, ← Nat.mul_assoc]
      omega

theorem bitL_lt (l : List UInt8) (i : Nat) : bitL l i < 2 := by unfold bitL; omega
theorem pow8 : ∀ e, e < 8 → 2 ^ e = 1 ∨ 2 ^ e = 2 ∨ 2 ^ e = 4 ∨ 2 ^ e = 8 ∨ 2 ^ e = 16 ∨ 2 ^ e = 32 ∨ 2 ^ e = 64 ∨ 2 ^ e = 128 := by
  intro e h
  obtain rfl | rfl | rfl | rfl | rfl | rfl | rfl | rfl : e = 0 ∨ e = 1 ∨ e = 2 ∨ e = 3 ∨ e = 4 ∨ e = 5 ∨ e = 6 ∨ e = 7 := by omega
  all_goals simp
theorem byte_lt (b : UInt8) : b.toNat < 256 := b.toNat_lt
/-- A byte is the number of its bits. -/
theorem numOf_byte (l : List UInt8) (k : Nat) : numOf (bitL l) (8 * k) 8 = (l[k]?.getD 0).toNat := by
  have e : numOf (bitL l) (8 * k) 8 = numOf (fun i => (l[k]?.getD 0).toNat / 2 ^ (i - 8 * k) % 2) (8 * k) 8 := by
    refine numOf_congr _ _ fun i h1 h2 => ?_
    unfold bitL
    rw [show i / 8 = k by omega, show i % 8 = i - 8 * k by omega]
  rw [e, numOf_bits]
  exact Nat.mod_eq_of_lt (byte_lt _)

/-- The bytes of bits. -/
def putB (f : Nat → Nat) (len : Nat) : List UInt8 := (List.range len).map fun k => UInt8.ofNat (numOf f (8 * k) 8)
theorem putB_length (f : Nat → Nat) (len : Nat) : (putB f len).length = len := by simp [putB]
theorem putB_get {f : Nat → Nat} {len k : Nat} (h : k < len) : (putB f len)[k]? = some (UInt8.ofNat (numOf f (8 * k) 8)) := by
  unfold putB
  rw [List.getElem?_map, List.getElem?_range h]
  rfl
theorem ofNat_toNat {n : Nat} (h : n < 256) : (UInt8.ofNat n).toNat = n := by
  simp [UInt8.toNat_ofNat']
  omega
theorem putB_old (l : List UInt8) : putB (bitL l) l.length = l := by
  apply List.ext_getElem?
  intro k
  rcases Nat.lt_or_ge k l.length with h | h
  · rw [putB_get h, numOf_byte, List.getElem?_eq_getElem h]
    simp
  · rw [List.getElem?_eq_none (by rw [putB_length]; exact h), List.getElem?_eq_none h]
theorem putB_congr {f g : Nat → Nat} {len : Nat} (h : ∀ i, i < 8 * len → f i = g i) : putB f len = putB g len := by
  unfold putB
  apply List.map_congr_left
  intro k hk
  have hk' : k < len := List.mem_range.1 hk
  rw [numOf_congr 8 (8 * k) (fun i h1 h2 => h i (by omega))]
theorem bitL_putB {f : Nat → Nat} (hf : ∀ i, f i < 2) {len i : Nat} (h : i < 8 * len) : bitL (putB f len) i = f i := by
  unfold bitL
  rw [putB_get (show i / 8 < len by omega)]
  show (UInt8.ofNat (numOf f (8 * (i / 8)) 8)).toNat / 2 ^ (i % 8) % 2 = f i
  rw [ofNat_toNat (Nat.lt_of_lt_of_le (numOf_lt hf 8 _) (by decide)), numOf_bit hf 8 _ _ (by omega)]
  congr 1; omega
/-- The bits of l with w bits of n from a on. -/
def putBit (l : List UInt8) (a w n i : Nat) : Nat := if a ≤ i ∧ i < a + w then n / 2 ^ (i - a) % 2 else bitL l i
theorem putBit_lt (l : List UInt8) (a w n i : Nat) : putBit l a w n i < 2 := by
  unfold putBit
  split
  · omega
  · exact bitL_lt _ _
theorem putBit_zero (l : List UInt8) (a n : Nat) : putBit l a 0 n = bitL l := by
  funext i
  unfold putBit
  rw [if_neg (by omega)]
theorem putBit_same (l : List UInt8) {a j n i : Nat} (h : i ≠ a + j) : putBit l a (j + 1) n i = putBit l a j n i := by
  unfold putBit
  by_cases h1 : a ≤ i ∧ i < a + j
  · rw [if_pos h1, if_pos (by omega)]
  · rw [if_neg h1, if_neg (by omega)]
theorem putBit_at (l : List UInt8) (a j n : Nat) : putBit l a (j + 1) n (a + j) = n / 2 ^ j % 2 := by
  unfold putBit
  rw [if_pos (by omega), show a + j - a = j by omega]
theorem putBit_old (l : List UInt8) (a j n : Nat) : putBit l a j n (a + j) = bitL l (a + j) := by
  unfold putBit
  rw [if_neg (by omega)]
/-- What the model writes into the byte of one bit more. -/
def turnB (b p n : Nat) : Nat := b - b / p % 2 * p + n % 2 * p
theorem putB_step_at (l : List UInt8) {a j n k : Nat} (hkk : (a + j) / 8 = k) :
    numOf (putBit l a (j + 1) n) (8 * k) 8 = turnB (numOf (putBit l a j n) (8 * k) 8) (2 ^ ((a + j) % 8)) (n / 2 ^ j) := by
  obtain ⟨e, he⟩ : ∃ e, (a + j) % 8 = e := ⟨_, rfl⟩
  have he8 : e < 8 := by omega
  have e8 : 8 * k + e = a + j := by omega
  have h0 := numOf_set (putBit l a j n) (putBit l a (j + 1) n) 8 (8 * k) e he8 (fun i hi => putBit_same l (by omega))
  rw [e8, putBit_at] at h0
  have h2 := numOf_bit (putBit_lt l a j n) 8 (8 * k) e he8
  rw [e8] at h2
  rw [he]
  generalize numOf (putBit l a (j + 1) n) (8 * k) 8 = X at *
  generalize numOf (putBit l a j n) (8 * k) 8 = Y at *
  unfold turnB
  rw [h2]
  have h3 : putBit l a j n (a + j) * 2 ^ e ≤ Y := by
    rw [← h2]
    exact Nat.le_trans (Nat.mul_le_mul_right _ (Nat.mod_le _ _)) (Nat.div_mul_le_self _ _)
  generalize putBit l a j n (a + j) * 2 ^ e = u at *
  generalize n / 2 ^ j % 2 * 2 ^ e = v at *
  omega
theorem putB_step (l : List UInt8) {a j n : Nat} (h : a + j < 8 * l.length) :
    putB (putBit l a (j + 1) n) l.length = (putB (putBit l a j n) l.length).set ((a + j) / 8) (UInt8.ofNat (turnB (((putB (putBit l a j n) l.length)[(a + j) / 8]?.getD 0).toNat) (2 ^ ((a + j) % 8)) (n / 2 ^ j))) := by
  have hq : (a + j) / 8 < l.length := by omega
  rw [putB_get hq]
  show _ = (putB (putBit l a j n) l.length).set ((a + j) / 8) (UInt8.ofNat (turnB ((UInt8.ofNat (numOf (putBit l a j n) (8 * ((a + j) / 8)) 8)).toNat) (2 ^ ((a + j) % 8)) (n / 2 ^ j)))
  rw [ofNat_toNat (Nat.lt_of_lt_of_le (numOf_lt (putBit_lt l a j n) 8 _) (by decide)), ← putB_step_at l rfl]
  apply List.ext_getElem?
  intro k
  rcases Nat.lt_or_ge k l.length with hk | hk
  · rw [putB_get hk, List.getElem?_set, putB_length]
    by_cases hkk : (a + j) / 8 = k
    · rw [if_pos hkk, if_pos hq, hkk]
    · rw [if_neg hkk, putB_get hk]
      congr 2
      exact numOf_congr 8 _ fun i h1 h2 => putBit_same l (by omega)
  · rw [List.getElem?_eq_none (by rw [putB_length]; exact hk), List.getElem?_eq_none (by rw [List.length_set, putB_length]; exact hk)]
theorem turnB_lt {b p n : Nat} (hb : b < 256) (hp : p = 1 ∨ p = 2 ∨ p = 4 ∨ p = 8 ∨ p = 16 ∨ p = 32 ∨ p = 64 ∨ p = 128) : turnB b p n < 256 := by
  unfold turnB
  rcases hp with rfl | rfl | rfl | rfl | rfl | rfl | rfl | rfl <;> omega
/-- What is put is got. -/
theorem get_put (l : List UInt8) {a w n : Nat} (h : a + w ≤ 8 * l.length) (hn : n < 2 ^ w) : numOf (bitL (putB (putBit l a w n) l.length)) a w = n := by
  rw [numOf_congr w a (g := fun i => n / 2 ^ (i - a) % 2), numOf_bits, Nat.mod_eq_of_lt hn]
  intro i h1 h2
  rw [bitL_putB (putBit_lt l a w n) (by omega)]
  unfold putBit
  rw [if_pos ⟨h1, h2⟩]
/-- What was there, put back. -/
theorem put_back (l : List UInt8) {a w n : Nat} (h : a + w ≤ 8 * l.length) : putB (putBit (putB (putBit l a w n) l.length) a w (numOf (bitL l) a w)) l.length = l := by
  rw [← putB_old l]
  rw [putB_old l]
  conv => rhs; rw [← putB_old l]
  refine putB_congr fun i hi => ?_
  unfold putBit
  split
  · rename_i hin
    rw [numOf_bit (bitL_lt l) w a (i - a) (by omega), show a + (i - a) = i by omega]
  · rename_i hin
    have e := bitL_putB (f := putBit l a w n) (putBit_lt l a w n) hi
    unfold putBit at e
    rw [e, if_neg hin]

/-! What a field's numbers mean. -/
def fieldB (a w : Int) : Bool := inB 0 1800 a && inB 1 32 w
def hasB (s : ByteArray) (a w : Int) : Bool := fieldB a w && decide (a + w ≤ 8 * (s.size : Int))
/-- Two to a power, for a width. -/
def powI (w : Int) : Int := ((2 ^ w.toNat : Nat) : Int)
def getI (s : ByteArray) (a w : Int) : Int := if 8000 < s.size then 0 else if hasB s a w then ((numOf (bitL s.data.toList) a.toNat w.toNat : Nat) : Int) else 0
def putI (s : ByteArray) (a w n : Int) : List UInt8 :=
  if 8000 < s.size then [] else if hasB s a w && inB 0 (powI w - 1) n then putB (putBit s.data.toList a.toNat w.toNat n.toNat) s.size else s.data.toList
def lowI (a w : Int) (g : Bool) : Int := if fieldB a w && g then -(powI (w - 1)) else 0
def topI (w : Int) (g : Bool) : Int := if g then powI (w - 1) - 1 else powI w - 1
def highI (a w : Int) (g : Bool) : Int := if fieldB a w then (if w < 4 then topI w g else topI w g - 2) else 0
def valB (a w : Int) (g : Bool) (k n : Int) : Bool :=
  fieldB a w && (if k = 1 then decide (lowI a w g ≤ n) && decide (n ≤ highI a w g) else inB 2 3 k && (decide (n = 0) && decide (4 ≤ w)))
/-- What a number that stands in a field means. -/
def meanI (w : Int) (g : Bool) (n : Int) : Int × Int := if 4 ≤ w ∧ n = topI w g then (2, 0) else if 4 ≤ w ∧ n = topI w g - 1 then (3, 0) else (1, n)
def signI (w : Int) (g : Bool) (n : Int) : Int := if topI w g < n then n - powI w else n
def fgetI (s : ByteArray) (a w : Int) (g : Bool) : Int × Int :=
  if 8000 < s.size then (0, 0) else if hasB s a w then meanI w g (signI w g (numOf (bitL s.data.toList) a.toNat w.toNat : Nat)) else (0, 0)
/-- The number by which a field tells a value. -/
def tellI (w : Int) (g : Bool) (k n : Int) : Int := if k = 2 then topI w g else if k = 3 then topI w g - 1 else n
def bitsI (w n : Int) : Int := if n < 0 then n + powI w else n
def fputI (s : ByteArray) (a w : Int) (g : Bool) (k n : Int) : List UInt8 :=
  if 8000 < s.size then [] else if valB a w g k n && hasB s a w then putB (putBit s.data.toList a.toNat w.toNat (bitsI w (tellI w g k n)).toNat) s.size else s.data.toList

theorem pow_le32 {k : Nat} (h : k ≤ 32) : 2 ^ k ≤ 4294967296 := Nat.pow_le_pow_right (by decide) h
theorem powI_pos (w : Int) : 1 ≤ powI w := by
  unfold powI
  have := Nat.pow_pos (n := w.toNat) (show 0 < 2 by decide)
  omega
theorem powI_le {w : Int} (h : w ≤ 32) : powI w ≤ 4294967296 := by
  unfold powI
  have := pow_le32 (k := w.toNat) (by omega)
  omega
theorem powI_step {w : Int} (h : 1 ≤ w) : powI w = 2 * powI (w - 1) := by
  unfold powI
  rw [show w.toNat = (w - 1).toNat + 1 by omega, Nat.pow_succ]
  omega
theorem powI_four {w : Int} (h : 4 ≤ w) : 8 ≤ powI (w - 1) := by
  unfold powI
  have : 2 ^ 3 ≤ 2 ^ (w - 1).toNat := Nat.pow_le_pow_right (by decide) (by omega)
  omega
theorem fieldB_of {a w : Int} (h : fieldB a w = true) : 0 ≤ a ∧ a ≤ 1800 ∧ 1 ≤ w ∧ w ≤ 32 := by
  unfold fieldB at h
  simp only [Bool.and_eq_true] at h
  have h1 := inB_of h.1
  have h2 := inB_of h.2
  omega
theorem hasB_of {s : ByteArray} {a w : Int} (h : hasB s a w = true) : fieldB a w = true ∧ a + w ≤ 8 * (s.size : Int) := by
  unfold hasB at h
  simpa using h
end Go.Proofs.Ytanijfmfjabmfaa
