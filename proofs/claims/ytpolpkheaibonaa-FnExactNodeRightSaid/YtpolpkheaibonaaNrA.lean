/- Several texts in one, each with its own head: what is proved, and of what, stands there. -/
import Derived.Test.YtpolpkheaibonaaOwn
import Derived.Test.YtpolpkheaibonaaBroad
import Derived.Laws.BitsAllLaws
import Derived.Laws.Shifts
import Derived.IntWalk
import Derived.Deep.RegionWith
import Derived.BigQuiet
import Derived.Deep.RegionHeld3
import Derived.Test.YtpolpkheaibonaaRsOwn
import Derived.Test.YtpolpkheaibonaaNumsTo
import Derived.Test.YtpolpkheaibonaaSess
import Derived.Test.YtpolpkheaibonaaTab
import Derived.WalkMore
import Derived.Test.YtpolpkheaibonaaQuiet
import Derived.Test.YtpolpkheaibonaaClaimMath
import Derived.Orders
import Derived.Deep.QuietTactic
import Derived.BigCall
import Derived.BigRegion
import Derived.Deep.AppendSrc
import Derived.Test.YtpolpkheaibonaaGts
/- Bits of a text, numbers made of bits, bits put into a text, and what a field's numbers mean: over lists and numbers alone. -/
namespace Go.Proofs.Ytpolpkheaibonaa
open Go.RowKit
set_option linter.unusedVariables false

/-- Bit i of a row of bytes. -/
def bitL (l : List UInt8) (i : Nat) : Nat := (l[i / 8]?.getD 0).toNat / 2 ^ (i % 8) % 2
/-- The number of w bits from place a on, the lowest first. -/
def numOf (f : Nat → Nat) (a : Nat) : Nat → Nat
  | 0 => 0
  | w + 1 => f a + 2 * numOf f (a + 1) w
theorem numOf_high (f : Nat → Nat) (w : Nat) : ∀ a, numOf f a (w + 1) = numOf f a w + f (a + w) * 2 ^ w := by
  induction w with
  | zero => intro a; simp [numOf]
  | succ w ih =>
    intro a
    show f a + 2 * numOf f (a + 1) (w + 1) = f a + 2 * numOf f (a + 1) w + _
    rw [ih (a + 1), Nat.pow_succ, show a + 1 + w = a + (w + 1) by omega, Nat.mul_add, ← Nat.mul_assoc (f (a + (w + 1))), Nat.mul_comm (f (a + (w + 1)) * 2 ^ w) 2]
    omega
theorem numOf_congr {f g : Nat → Nat} (w : Nat) : ∀ a, (∀ i, a ≤ i → i < a + w → f i = g i) → numOf f a w = numOf g a w := by
  induction w with
  | zero => intro a h; rfl
  | succ w ih =>
    intro a h
    show f a + 2 * numOf f (a + 1) w = g a + 2 * numOf g (a + 1) w
    rw [h a (Nat.le_refl _) (by omega), ih (a + 1) (fun i h1 h2 => h i (by omega) (by omega))]
theorem numOf_lt {f : Nat → Nat} (hf : ∀ i, f i < 2) (w : Nat) : ∀ a, numOf f a w < 2 ^ w := by
  induction w with
  | zero => intro a; simp [numOf]
  | succ w ih =>
    intro a
    show f a + 2 * numOf f (a + 1) w < _
    have := hf a
    have := ih (a + 1)
    rw [Nat.pow_succ]
    omega
theorem numOf_bits (w : Nat) : ∀ (a n : Nat), numOf (fun i => n / 2 ^ (i - a) % 2) a w = n % 2 ^ w := by
  induction w with
  | zero => intro a n; simp [numOf, Nat.mod_one]
  | succ w ih =>
    intro a n
    show n / 2 ^ (a - a) % 2 + 2 * numOf (fun i => n / 2 ^ (i - a) % 2) (a + 1) w = _
    have e : numOf (fun i => n / 2 ^ (i - a) % 2) (a + 1) w = numOf (fun i => n / 2 / 2 ^ (i - (a + 1)) % 2) (a + 1) w := by
      refine numOf_congr _ _ fun i h1 h2 => ?_
      show n / 2 ^ (i - a) % 2 = _
      rw [show i - a = (i - (a + 1)) + 1 by omega, Nat.pow_succ, Nat.mul_comm, Nat.div_div_eq_div_mul]
    rw [e, ih, Nat.sub_self, Nat.pow_zero, Nat.div_one, Nat.pow_succ, Nat.mul_comm (2 ^ w) 2, Nat.mod_mul]
theorem numOf_bit {f : Nat → Nat} (hf : ∀ i, f i < 2) (w : Nat) : ∀ (a i : Nat), i < w → numOf f a w / 2 ^ i % 2 = f (a + i) := by
  induction w with
  | zero => intro a i h; omega
  | succ w ih =>
    intro a i h
    show (f a + 2 * numOf f (a + 1) w) / 2 ^ i % 2 = _
    have h0 := hf a
    rcases i with _ | i
    · show (f a + 2 * numOf f (a + 1) w) / 2 ^ 0 % 2 = f a
      rw [Nat.pow_zero, Nat.div_one]; omega
    · rw [Nat.pow_succ, Nat.mul_comm (2 ^ i) 2, ← Nat.div_div_eq_div_mul, show (f a + 2 * numOf f (a + 1) w) / 2 = numOf f (a + 1) w by omega, ih (a + 1) i (by omega)]
      congr 1; omega
/-- One bit of many turned. -/
theorem numOf_set (f g : Nat → Nat) (w : Nat) : ∀ (a i : Nat), i < w → (∀ j, j ≠ a + i → g j = f j) → numOf g a w + f (a + i) * 2 ^ i = numOf f a w + g (a + i) * 2 ^ i := by
  induction w with
  | zero => intro a i h; omega
  | succ w ih =>
    intro a i h hg
    show g a + 2 * numOf g (a + 1) w + _ = f a + 2 * numOf f (a + 1) w + _
    rcases i with _ | i
    · rw [numOf_congr w (a + 1) (f := g) (g := f) (fun j h1 h2 => hg j (by omega))]
      simp
      omega
    · have e := ih (a + 1) i (by omega) (fun j hj => hg j (by omega))
      rw [hg a (by omega), Nat.pow_succ, show a + (i + 1) = a + 1 + i by omega, ← Nat.mul_assoc, ← Nat.mul_assoc]
      omega

theorem bitL_lt (l : List UInt8) (i : Nat) : bitL l i < 2 := by unfold bitL; omega
theorem pow8 : ∀ e, e < 8 → 2 ^ e = 1 ∨ 2 ^ e = 2 ∨ 2 ^ e = 4 ∨ 2 ^ e = 8 ∨ 2 ^ e = 16 ∨ 2 ^ e = 32 ∨ 2 ^ e = 64 ∨ 2 ^ e = 128 := by
  intro e h
  obtain rfl | rfl | rfl | rfl | rfl | rfl | rfl | rfl : e = 0 ∨ e = 1 ∨ e = 2 ∨ e = 3 ∨ e = 4 ∨ e = 5 ∨ e = 6 ∨ e = 7 := by omega
  all_goals simp
theorem byte_lt (b : UInt8) : b.toNat < 256 := b.toNat_lt
/-- A byte is the number of its bits. -/
theorem numOf_byte (l : List UInt8) (k : Nat) : numOf (bitL l) (8 * k) 8 = (l[k]?.getD 0).toNat := by
  have e : numOf (bitL l) (8 * k) 8 = numOf (fun i => (l[k]?.getD 0).toNat / 2 ^ (i - 8 * k) % 2) (8 * k) 8 := by
    refine numOf_congr _ _ fun i h1 h2 => ?_
    unfold bitL
    rw [show i / 8 = k by omega, show i % 8 = i - 8 * k by omega]
  rw [e, numOf_bits]
  exact Nat.mod_eq_of_lt (byte_lt _)

/-- The bytes of bits. -/
def putB (f : Nat → Nat) (len : Nat) : List UInt8 := (List.range len).map fun k => UInt8.ofNat (numOf f (8 * k) 8)
theorem putB_length (f : Nat → Nat) (len : Nat) : (putB f len).length = len := by simp [putB]
theorem putB_get {f : Nat → Nat} {len k : Nat} (h : k < len) : (putB f len)[k]? = some (UInt8.ofNat (numOf f (8 * k) 8)) := by
  unfold putB
  rw [List.getElem?_map, List.getElem?_range h]
  rfl
theorem ofNat_toNat {n : Nat} (h : n < 256) : (UInt8.ofNat n).toNat = n := by
  simp [UInt8.toNat_ofNat']
  omega
theorem putB_old (l : List UInt8) : putB (bitL l) l.length = l := by
  apply List.ext_getElem?
  intro k
  rcases Nat.lt_or_ge k l.length with h | h
  · rw [putB_get h, numOf_byte, List.getElem?_eq_getElem h]
    simp
  · rw [List.getElem?_eq_none (by rw [putB_length]; exact h), List.getElem?_eq_none h]
theorem putB_congr {f g : Nat → Nat} {len : Nat} (h : ∀ i, i < 8 * len → f i = g i) : putB f len = putB g len := by
  unfold putB
  apply List.map_congr_left
  intro k hk
  have hk' : k < len := List.mem_range.1 hk
  rw [numOf_congr 8 (8 * k) (fun i h1 h2 => h i (by omega))]
theorem bitL_putB {f : Nat → Nat} (hf : ∀ i, f i < 2) {len i : Nat} (h : i < 8 * len) : bitL (putB f len) i = f i := by
  unfold bitL
  rw [putB_get (show i / 8 < len by omega)]
  show (UInt8.ofNat (numOf f (8 * (i / 8)) 8)).toNat / 2 ^ (i % 8) % 2 = f i
  rw [ofNat_toNat (Nat.lt_of_lt_of_le (numOf_lt hf 8 _) (by decide)), numOf_bit hf 8 _ _ (by omega)]
  congr 1; omega
/-- The bits of l with w bits of n from a on. -/
def putBit (l : List UInt8) (a w n i : Nat) : Nat := if a ≤ i ∧ i < a + w then n / 2 ^ (i - a) % 2 else bitL l i
theorem putBit_lt (l : List UInt8) (a w n i : Nat) : putBit l a w n i < 2 := by
  unfold putBit
  split
  · omega
  · exact bitL_lt _ _
theorem putBit_zero (l : List UInt8) (a n : Nat) : putBit l a 0 n = bitL l := by
  funext i
  unfold putBit
  rw [if_neg (by omega)]
theorem putBit_same (l : List UInt8) {a j n i : Nat} (h : i ≠ a + j) : putBit l a (j + 1) n i = putBit l a j n i := by
  unfold putBit
  by_cases h1 : a ≤ i ∧ i < a + j
  · rw [if_pos h1, if_pos (by omega)]
  · rw [if_neg h1, if_neg (by omega)]
theorem putBit_at (l : List UInt8) (a j n : Nat) : putBit l a (j + 1) n (a + j) = n / 2 ^ j % 2 := by
  unfold putBit
  rw [if_pos (by omega), show a + j - a = j by omega]
theorem putBit_old (l : List UInt8) (a j n : Nat) : putBit l a j n (a + j) = bitL l (a + j) := by
  unfold putBit
  rw [if_neg (by omega)]
/-- What the model writes into the byte of one bit more. -/
def turnB (b p n : Nat) : Nat := b - b / p % 2 * p + n % 2 * p
theorem putB_step_at (l : List UInt8) {a j n k : Nat} (hkk : (a + j) / 8 = k) :
    numOf (putBit l a (j + 1) n) (8 * k) 8 = turnB (numOf (putBit l a j n) (8 * k) 8) (2 ^ ((a + j) % 8)) (n / 2 ^ j) := by
  obtain ⟨e, he⟩ : ∃ e, (a + j) % 8 = e := ⟨_, rfl⟩
  have he8 : e < 8 := by omega
  have e8 : 8 * k + e = a + j := by omega
  have h0 := numOf_set (putBit l a j n) (putBit l a (j + 1) n) 8 (8 * k) e he8 (fun i hi => putBit_same l (by omega))
  rw [e8, putBit_at] at h0
  have h2 := numOf_bit (putBit_lt l a j n) 8 (8 * k) e he8
  rw [e8] at h2
  rw [he]
  generalize numOf (putBit l a (j + 1) n) (8 * k) 8 = X at *
  generalize numOf (putBit l a j n) (8 * k) 8 = Y at *
  unfold turnB
  rw [h2]
  have h3 : putBit l a j n (a + j) * 2 ^ e ≤ Y := by
    rw [← h2]
    exact Nat.le_trans (Nat.mul_le_mul_right _ (Nat.mod_le _ _)) (Nat.div_mul_le_self _ _)
  generalize putBit l a j n (a + j) * 2 ^ e = u at *
  generalize n / 2 ^ j % 2 * 2 ^ e = v at *
  omega
theorem putB_step (l : List UInt8) {a j n : Nat} (h : a + j < 8 * l.length) :
    putB (putBit l a (j + 1) n) l.length = (putB (putBit l a j n) l.length).set ((a + j) / 8) (UInt8.ofNat (turnB (((putB (putBit l a j n) l.length)[(a + j) / 8]?.getD 0).toNat) (2 ^ ((a + j) % 8)) (n / 2 ^ j))) := by
  have hq : (a + j) / 8 < l.length := by omega
  rw [putB_get hq]
  show _ = (putB (putBit l a j n) l.length).set ((a + j) / 8) (UInt8.ofNat (turnB ((UInt8.ofNat (numOf (putBit l a j n) (8 * ((a + j) / 8)) 8)).toNat) (2 ^ ((a + j) % 8)) (n / 2 ^ j)))
  rw [ofNat_toNat (Nat.lt_of_lt_of_le (numOf_lt (putBit_lt l a j n) 8 _) (by decide)), ← putB_step_at l rfl]
  apply List.ext_getElem?
  intro k
  rcases Nat.lt_or_ge k l.length with hk | hk
  · rw [putB_get hk, List.getElem?_set, putB_length]
    by_cases hkk : (a + j) / 8 = k
    · rw [if_pos hkk, if_pos hq, hkk]
    · rw [if_neg hkk, putB_get hk]
      congr 2
      exact numOf_congr 8 _ fun i h1 h2 => putBit_same l (by omega)
  · rw [List.getElem?_eq_none (by rw [putB_length]; exact hk), List.getElem?_eq_none (by rw [List.length_set, putB_length]; exact hk)]
theorem turnB_lt {b p n : Nat} (hb : b < 256) (hp : p = 1 ∨ p = 2 ∨ p = 4 ∨ p = 8 ∨ p = 16 ∨ p = 32 ∨ p = 64 ∨ p = 128) : turnB b p n < 256 := by
  unfold turnB
  rcases hp with rfl | rfl | rfl | rfl | rfl | rfl | rfl | rfl <;> omega
/-- What is put is got. -/
theorem get_put (l : List UInt8) {a w n : Nat} (h : a + w ≤ 8 * l.length) (hn : n < 2 ^ w) : numOf (bitL (putB (putBit l a w n) l.length)) a w = n := by
  rw [numOf_congr w a (g := fun i => n / 2 ^ (i - a) % 2), numOf_bits, Nat.mod_eq_of_lt hn]
  intro i h1 h2
  rw [bitL_putB (putBit_lt l a w n) (by omega)]
  unfold putBit
  rw [if_pos ⟨h1, h2⟩]
/-- What was there, put back. -/
theorem put_back (l : List UInt8) {a w n : Nat} (h : a + w ≤ 8 * l.length) : putB (putBit (putB (putBit l a w n) l.length) a w (numOf (bitL l) a w)) l.length = l := by
  rw [← putB_old l]
  rw [putB_old l]
  conv => rhs; rw [← putB_old l]
  refine putB_congr fun i hi => ?_
  unfold putBit
  split
  · rename_i hin
    rw [numOf_bit (bitL_lt l) w a (i - a) (by omega), show a + (i - a) = i by omega]
  · rename_i hin
    have e := bitL_putB (f := putBit l a w n) (putBit_lt l a w n) hi
    unfold putBit at e
    rw [e, if_neg hin]

/-! What a field's numbers mean. -/
def fieldB (a w : Int) : Bool := inB 0 1800 a && inB 1 32 w
def hasB (s : ByteArray) (a w : Int) : Bool := fieldB a w && decide (a + w ≤ 8 * (s.size : Int))
/-- Two to a power, for a width. -/
def powI (w : Int) : Int := ((2 ^ w.toNat : Nat) : Int)
def getI (s : ByteArray) (a w : Int) : Int := if 8000 < s.size then 0 else if hasB s a w then ((numOf (bitL s.data.toList) a.toNat w.toNat : Nat) : Int) else 0
def putI (s : ByteArray) (a w n : Int) : List UInt8 :=
  if 8000 < s.size then [] else if hasB s a w && inB 0 (powI w - 1) n then putB (putBit s.data.toList a.toNat w.toNat n.toNat) s.size else s.data.toList
def lowI (a w : Int) (g : Bool) : Int := if fieldB a w && g then -(powI (w - 1)) else 0
def topI (w : Int) (g : Bool) : Int := if g then powI (w - 1) - 1 else powI w - 1
def highI (a w : Int) (g : Bool) : Int := if fieldB a w then (if w < 4 then topI w g else topI w g - 2) else 0
def valB (a w : Int) (g : Bool) (k n : Int) : Bool :=
  fieldB a w && (if k = 1 then decide (lowI a w g ≤ n) && decide (n ≤ highI a w g) else inB 2 3 k && (decide (n = 0) && decide (4 ≤ w)))
/-- What a number that stands in a field means. -/
def meanI (w : Int) (g : Bool) (n : Int) : Int × Int := if 4 ≤ w ∧ n = topI w g then (2, 0) else if 4 ≤ w ∧ n = topI w g - 1 then (3, 0) else (1, n)
def signI (w : Int) (g : Bool) (n : Int) : Int := if topI w g < n then n - powI w else n
def fgetI (s : ByteArray) (a w : Int) (g : Bool) : Int × Int :=
  if 8000 < s.size then (0, 0) else if hasB s a w then meanI w g (signI w g (numOf (bitL s.data.toList) a.toNat w.toNat : Nat)) else (0, 0)
/-- The number by which a field tells a value. -/
def tellI (w : Int) (g : Bool) (k n : Int) : Int := if k = 2 then topI w g else if k = 3 then topI w g - 1 else n
def bitsI (w n : Int) : Int := if n < 0 then n + powI w else n
def fputI (s : ByteArray) (a w : Int) (g : Bool) (k n : Int) : List UInt8 :=
  if 8000 < s.size then [] else if valB a w g k n && hasB s a w then putB (putBit s.data.toList a.toNat w.toNat (bitsI w (tellI w g k n)).toNat) s.size else s.data.toList

theorem pow_le32 {k : Nat} (h : k ≤ 32) : 2 ^ k ≤ 4294967296 := Nat.pow_le_pow_right (by decide) h
theorem powI_pos (w : Int) : 1 ≤ powI w := by
  unfold powI
  have := Nat.pow_pos (n := w.toNat) (show 0 < 2 by decide)
  omega
theorem powI_le {w : Int} (h : w ≤ 32) : powI w ≤ 4294967296 := by
  unfold powI
  have := pow_le32 (k := w.toNat) (by omega)
  omega
theorem powI_step {w : Int} (h : 1 ≤ w) : powI w = 2 * powI (w - 1) := by
  unfold powI
  rw [show w.toNat = (w - 1).toNat + 1 by omega, Nat.pow_succ]
  omega
theorem powI_four {w : Int} (h : 4 ≤ w) : 8 ≤ powI (w - 1) := by
  unfold powI
  have : 2 ^ 3 ≤ 2 ^ (w - 1).toNat := Nat.pow_le_pow_right (by decide) (by omega)
  omega
theorem fieldB_of {a w : Int} (h : fieldB a w = true) : 0 ≤ a ∧ a ≤ 1800 ∧ 1 ≤ w ∧ w ≤ 32 := by
  unfold fieldB at h
  simp only [Bool.and_eq_true] at h
  have h1 := inB_of h.1
  have h2 := inB_of h.2
  omega
theorem hasB_of {s : ByteArray} {a w : Int} (h : hasB s a w = true) : fieldB a w = true ∧ a + w ≤ 8 * (s.size : Int) := by
  unfold hasB at h
  simpa using h
end Go.Proofs.Ytpolpkheaibonaa
/- The laws of 'or', 'and' and of shifts at int64 and at a byte that bits of a text want. -/
namespace Go.Proofs.Ytpolpkheaibonaa
open Go.RowKit
set_option linter.unusedVariables false

theorem wraps_i64 (n : Int) (h0 : 0 ≤ n) (h1 : n < 2 ^ 63) : IntKind.i64.wrap n = n := IntWalk.i64_in n (by omega)
theorem i64_join (e : Nat) {x c p : Int} (hp : p = ((2 ^ e : Nat) : Int)) (h0 : 0 ≤ x) (h1 : x < p) (h2 : 0 ≤ c) (h3 : x + c * p ≤ 9223372036854775807) : bits .or .i64 x (c * p) = x + c * p := by
  have hc : bits .or .i64 x (c * p) = bits .or .i64 (c * p) x := by simp only [bits, BitVec.or_comm]
  have hpp : (0 : Int) ≤ p := by omega
  have hcp : 0 ≤ c * p := Int.mul_nonneg h2 hpp
  rw [hc, bits_join .i64 63 (by decide) wraps_i64 e (c * p) x hcp (by rw [hp]; simp) (by omega) h0 (by rw [hp] at h1; simpa using h1) (by omega)]
  omega
theorem u8_join (e : Nat) {x c p : Int} (hp : p = ((2 ^ e : Nat) : Int)) (h0 : 0 ≤ x) (h1 : x < p) (h2 : 0 ≤ c) (h3 : x + c * p ≤ 255) : bits .or .u8 x (c * p) = x + c * p := by
  have hc : bits .or .u8 x (c * p) = bits .or .u8 (c * p) x := by simp only [bits, BitVec.or_comm]
  have hpp : (0 : Int) ≤ p := by omega
  have hcp : 0 ≤ c * p := Int.mul_nonneg h2 hpp
  rw [hc, bits_join .u8 8 (by decide) wraps_u8 e (c * p) x hcp (by rw [hp]; simp) (by omega) h0 (by rw [hp] at h1; simpa using h1) (by omega)]
  omega
/-- Two's complement: the lowest bits of a number. -/
theorem i64_mask (n : Int) (e : Nat) (he : e ≤ 62) (h0 : -9223372036854775808 ≤ n) (h1 : n ≤ 9223372036854775807) : bits .and .i64 n ((2 : Int) ^ e - 1) = n % 2 ^ e := by
  have hpos : 0 < 2 ^ e := Nat.two_pow_pos e
  have hle : 2 ^ e ≤ 2 ^ 62 := Nat.pow_le_pow_right (by decide) he
  have hc : ((2 : Int) ^ e - 1) = ((2 ^ e - 1 : Nat) : Int) := by
    rw [Int.natCast_sub hpos]; simp
  have hm : (BitVec.ofInt 64 ((2 ^ e - 1 : Nat) : Int)).toNat = 2 ^ e - 1 := by
    rw [BitVec.ofInt_natCast, BitVec.toNat_ofNat]
    exact Nat.mod_eq_of_lt (by omega)
  have key : (BitVec.ofInt 64 n &&& BitVec.ofInt 64 ((2 ^ e - 1 : Nat) : Int)).toNat = (n % ((2 ^ 64 : Nat) : Int)).toNat % 2 ^ e := by
    rw [BitVec.toNat_and, BitVec.toNat_ofInt, hm, Nat.and_two_pow_sub_one_eq_mod]
  rw [hc]
  show IntKind.i64.wrap ((BitVec.ofInt 64 n &&& BitVec.ofInt 64 ((2 ^ e - 1 : Nat) : Int)).toNat : Nat) = n % 2 ^ e
  rw [key]
  have hd : (2 ^ e) ∣ (2 ^ 64) := Nat.pow_dvd_pow 2 (by omega)
  have hlt : (n % ((2 ^ 64 : Nat) : Int)).toNat % 2 ^ e < 2 ^ e := Nat.mod_lt _ hpos
  rw [IntWalk.i64_in _ (by omega)]
  have h64 : 0 ≤ n % ((2 ^ 64 : Nat) : Int) := Int.emod_nonneg _ (by decide)
  rw [Int.natCast_emod, Int.toNat_of_nonneg h64]
  rw [Int.emod_emod_of_dvd n (by exact_mod_cast hd)]
  simp
theorem mask_bits {n w : Int} (hw : 1 ≤ w) (h0 : -(powI (w - 1)) ≤ n) (h1 : n ≤ powI w - 1) : n % powI w = bitsI w n := by
  have h2 := powI_step hw
  have h3 := powI_pos (w - 1)
  unfold bitsI
  split
  · rw [← Int.add_emod_right]
    exact Int.emod_eq_of_lt (by omega) (by omega)
  · exact Int.emod_eq_of_lt (by omega) (by omega)
/-- A power, as a shift spells it. -/
theorem shl_pow (w : Int) (h0 : 0 ≤ w) (h1 : w ≤ 62) : IntKind.i64.wrap (1 * 2 ^ min w.toNat 64) = powI w := by
  have hm : min w.toNat 64 = w.toNat := by omega
  have h2 : 2 ^ w.toNat ≤ 2 ^ 62 := Nat.pow_le_pow_right (by decide) (by omega)
  rw [hm, Int.one_mul]
  have e : (2 : Int) ^ w.toNat = ((2 ^ w.toNat : Nat) : Int) := by simp
  rw [e]
  unfold powI
  generalize 2 ^ w.toNat = p at *
  exact IntWalk.i64_in _ (by omega)
end Go.Proofs.Ytpolpkheaibonaa
/- What the program's tooLong answers: whether the text has more than 8000 bytes. -/
namespace Go.Proofs.Ytpolpkheaibonaa
open Go.RowKit
set_option linter.unusedVariables false
theorem tooLong_any (s : ByteArray) (w : World) (hs : s.size ≤ maxLen) :
    Calls Try.prog 103 #[.string s] w fun e w' => e = .returned (.bool (decide (8000 < (s.size : Int)))) ∧ w = w' := by
  unfold maxLen at hs
  go_enter Try.func103, Try.ntmps103
  go_wp2
  go_ret
  exact ⟨rfl, rfl⟩

end Go.Proofs.Ytpolpkheaibonaa
/- Whether a Field is right, its least and greatest numbers, and whether it can tell a Value: the program's and the model's. Nothing that was there is written. -/
namespace Go.Proofs.Ytpolpkheaibonaa
open Go.RowKit
set_option linter.unusedVariables false

/-- A Field's value. -/
def fdV (a w : Int) (g : Bool) : Value := .agg #[.int .i64 a, .int .i64 w, .bool g]
theorem fieldB_split (a w : Int) : fieldB a w = (inB 0 1800 a && (decide (1 ≤ w) && decide (w ≤ 32))) := rfl

theorem hasB_off {s : ByteArray} {a w : Int} (h : fieldB a w = false) : hasB s a w = false := by simp [hasB, h]
end Go.Proofs.Ytpolpkheaibonaa
/- The least and the greatest number of a Field: the program's and the model's. Nothing that was there is written. -/
namespace Go.Proofs.Ytpolpkheaibonaa
open Go.RowKit
set_option linter.unusedVariables false

/-- The cells of a Field's variable. -/
theorem fdCells {u : World} {R : Nat} {a w : Int} {g : Bool} {T : TypeId} (h : u.heap[R]? = some (.cells #[.int .i64 a, .int .i64 w, .bool g] T (0, 0))) :
    u.cell? ⟨R, 0, none⟩ = some (.int .i64 a) ∧ u.cell? ⟨R, 1, none⟩ = some (.int .i64 w) ∧ u.cell? ⟨R, 2, none⟩ = some (.bool g) :=
  ⟨(cell_of_row u R 0 _ _ (0, 0) h).trans rfl, (cell_of_row u R 1 _ _ (0, 0) h).trans rfl, (cell_of_row u R 2 _ _ (0, 0) h).trans rfl⟩
/-- The cells of a Value's variable. -/
theorem vlCells {u : World} {R : Nat} {k n : Int} {T : TypeId} (h : u.heap[R]? = some (.cells #[.int .i64 k, .int .i64 n] T (0, 0))) :
    u.cell? ⟨R, 0, none⟩ = some (.int .i64 k) ∧ u.cell? ⟨R, 1, none⟩ = some (.int .i64 n) :=
  ⟨(cell_of_row u R 0 _ _ (0, 0) h).trans rfl, (cell_of_row u R 1 _ _ (0, 0) h).trans rfl⟩
theorem shl_pow1 (w : Int) (h0 : 0 ≤ w) (h1 : w ≤ 62) : IntKind.i64.wrap (2 ^ min w.toNat 64) = powI w := by
  have := shl_pow w h0 h1
  rwa [Int.one_mul] at this
theorem wrap64_i64 (n : Int) : IntKind.i64.wrap n = wrap64 n := by
  rw [IntKind.wrap_i64]
  unfold wrap64
  first | rfl | (split <;> omega) | omega
theorem pow64 {w : Int} (h0 : 0 ≤ w) (h1 : w ≤ 62) : wrap64 (2 ^ w.toNat) = powI w := by
  have := shl_pow1 w h0 h1
  have hm : min w.toNat 64 = w.toNat := by omega
  rw [hm] at this
  rw [← this]
  exact (wrap64_i64 _).symm
theorem pow64_less {w : Int} (h0 : 1 ≤ w) (h1 : w ≤ 62) : wrap64 (2 ^ (w.toNat - 1)) = powI (w - 1) := by
  have := pow64 (w := w - 1) (by omega) (by omega)
  rwa [show (w - 1).toNat = w.toNat - 1 by omega] at this
theorem lowI_off {a w : Int} {g : Bool} (h : fieldB a w = false) : lowI a w g = 0 := by simp [lowI, h]
theorem lowI_plain (a w : Int) : lowI a w false = 0 := by simp [lowI]
theorem lowI_on {a w : Int} (h : fieldB a w = true) : lowI a w true = -(powI (w - 1)) := by simp [lowI, h]
theorem highI_off {a w : Int} {g : Bool} (h : fieldB a w = false) : highI a w g = 0 := by simp [highI, h]
theorem highI_on {a w : Int} {g : Bool} (h : fieldB a w = true) : highI a w g = if w < 4 then topI w g else topI w g - 2 := by simp [highI, h]
/-- The bounds of a right Field's numbers. -/
theorem topI_in {w : Int} (g : Bool) (h0 : 1 ≤ w) (h1 : w ≤ 32) : 0 ≤ topI w g ∧ topI w g ≤ 4294967295 := by
  have h2 := powI_pos w
  have h3 := powI_le h1
  have h4 := powI_pos (w - 1)
  have h5 := powI_le (w := w - 1) (by omega)
  unfold topI
  split <;> omega
theorem lowI_in {a w : Int} (g : Bool) (h : fieldB a w = true) : -4294967296 ≤ lowI a w g ∧ lowI a w g ≤ 0 := by
  obtain ⟨_, _, h0, h1⟩ := fieldB_of h
  have h4 := powI_pos (w - 1)
  have h5 := powI_le (w := w - 1) (by omega)
  cases g
  · rw [lowI_plain]; omega
  · rw [lowI_on h]; omega
theorem mostI {a w : Int} (g : Bool) (h : fieldB a w = true) : lowI a w g + (powI w - 1) = topI w g := by
  obtain ⟨_, _, h0, h1⟩ := fieldB_of h
  have h4 := powI_step h0
  cases g
  · rw [lowI_plain]; simp [topI]
  · rw [lowI_on h]; simp [topI]; omega

end Go.Proofs.Ytpolpkheaibonaa
/- Rows of Fields: alike, marked, read again by the laws' own functions. Nothing that was there is written, but what is marked. -/
namespace Go.Proofs.Ytpolpkheaibonaa
open Go.RowKit
set_option linter.unusedVariables false

/-- One of them. -/
structure Fd where
  a : Int
  w : Int
  g : Bool
/-- Its cells. -/
def fdL (x : Fd) : List Value := [.int .i64 x.a, .int .i64 x.w, .bool x.g]
theorem fdL_len (x : Fd) : (fdL x).length = 3 := rfl
theorem fdL_one (x : Fd) : ∀ u ∈ fdL x, u.oneCell' = true := by
  intro u hu
  simp [fdL] at hu
  rcases hu with rfl | rfl | rfl <;> rfl
def fdAt (l : List Fd) (i : Nat) : Fd := l[i]?.getD ⟨0, 0, false⟩
theorem fdAt_some {l : List Fd} {i : Nat} (h : i < l.length) : l[i]? = some (fdAt l i) := by
  unfold fdAt
  rw [List.getElem?_eq_getElem h]
  rfl
theorem fdV_row (x : Fd) : fdV x.a x.w x.g = .agg (fdL x).toArray := rfl
/-- The marks from q on. -/
def markFd (q : Nat) : Fd := ⟨((q : Nat) : Int), ((q + 1 : Nat) : Int), (((q + 2 : Nat) : Int) % 3 == 0)⟩
/-- m of them from k on. -/
def marksFd (k m : Nat) : List Fd := (List.range m).map fun i => markFd (k + 3 * i)
theorem marksFd_length (k m : Nat) : (marksFd k m).length = m := by simp [marksFd]
theorem marksFd_at {k m i : Nat} {x : Fd} (h : (marksFd k m)[i]? = some x) : i < m ∧ x = markFd (k + 3 * i) := by
  unfold marksFd at h
  rw [List.getElem?_map] at h
  obtain ⟨j, hj, rfl⟩ := Option.map_eq_some_iff.1 h
  obtain ⟨hi, rfl⟩ := List.getElem?_eq_some_iff.1 hj
  have hi' : i < m := by simpa using hi
  simp [hi']
theorem marksFd_get {k m i : Nat} (h : i < m) : (marksFd k m)[i]? = some (markFd (k + 3 * i)) := by
  unfold marksFd
  rw [List.getElem?_map, List.getElem?_range h]
  rfl
end Go.Proofs.Ytpolpkheaibonaa
/- The table of groups: its rows, as the program lays them down, and the row of one group. Nothing that was there is written. -/
namespace Go.Proofs.Ytpolpkheaibonaa
open Go.RowKit
set_option linter.unusedVariables false

/-- A row of the table. -/
structure Df where
  p : Int
  s : Int
  r : Int
  fs : List Fd
/-- The table. -/
def dfs : List Df := [⟨127250, 8, 2, [⟨0, 8, false⟩, ⟨8, 16, false⟩, ⟨24, 16, true⟩, ⟨40, 16, true⟩, ⟨56, 2, false⟩]⟩, ⟨127488, 8, 2, [⟨0, 8, false⟩, ⟨8, 16, false⟩, ⟨24, 16, false⟩, ⟨40, 8, true⟩]⟩, ⟨128267, 8, 3, [⟨0, 8, false⟩, ⟨8, 32, false⟩, ⟨40, 16, true⟩, ⟨56, 8, false⟩]⟩, ⟨128275, 14, 6, [⟨0, 16, false⟩, ⟨16, 32, false⟩, ⟨48, 32, false⟩, ⟨80, 32, false⟩]⟩, ⟨129025, 8, 2, [⟨0, 32, true⟩, ⟨32, 32, true⟩]⟩, ⟨130306, 8, 2, [⟨0, 8, false⟩, ⟨8, 16, false⟩, ⟨24, 16, false⟩, ⟨40, 3, false⟩]⟩]
/-- The place of a group in it. -/
def ixD (p : Int) : Nat := if p = 127250 then 0 else if p = 127488 then 1 else if p = 128267 then 2 else if p = 128275 then 3 else if p = 129025 then 4 else if p = 130306 then 5 else 6
/-- The row of a group. -/
def defD (p : Int) : Df := dfs[ixD p]?.getD ⟨0, 0, 0, []⟩
/-- A row as it stands in memory. -/
structure Dx where
  p : Int
  s : Int
  r : Int
  a : Option Addr
  n : Nat
def dxL (x : Dx) : List Value := [.int .i64 x.p, .int .i64 x.s, .int .i64 x.r, .slice x.a x.n x.n]
theorem dxL_len (x : Dx) : (dxL x).length = 4 := rfl
/-- The rows, their Fields in the blocks from B on. -/
def dxs (B : Nat) : List Dx := [⟨127250, 8, 2, some ⟨B, 0, none⟩, 5⟩, ⟨127488, 8, 2, some ⟨B + 1, 0, none⟩, 4⟩, ⟨128267, 8, 3, some ⟨B + 1 + 1, 0, none⟩, 4⟩, ⟨128275, 14, 6, some ⟨B + 1 + 1 + 1, 0, none⟩, 4⟩, ⟨129025, 8, 2, some ⟨B + 1 + 1 + 1 + 1, 0, none⟩, 2⟩, ⟨130306, 8, 2, some ⟨B + 1 + 1 + 1 + 1 + 1, 0, none⟩, 4⟩]
def dxAt (B : Nat) (i : Nat) : Dx := (dxs B)[i]?.getD ⟨0, 0, 0, none, 0⟩
/-- What is found. -/
def dxD (B : Nat) (p : Int) : Dx := dxAt B (ixD p)
theorem dxAt_some {B i : Nat} (h : i < 6) : (dxs B)[i]? = some (dxAt B i) := by
  unfold dxAt
  rw [List.getElem?_eq_getElem (show i < (dxs B).length from h)]
  rfl
def pAt (i : Nat) : Int := (dxAt 0 i).p
theorem dxAt_p (B i : Nat) : (dxAt B i).p = pAt i := by
  rcases i with _ | _ | _ | _ | _ | _ | i <;> rfl
theorem ixD_le (p : Int) : ixD p ≤ 6 := by
  unfold ixD
  repeat' split
  all_goals omega
theorem ixD_at (i : Nat) (h : i < 6) : ixD (pAt i) = i := by
  rcases i with _ | _ | _ | _ | _ | _ | i
  all_goals first | rfl | omega
theorem ixD_of {p : Int} {i : Nat} (h : i < 6) (hp : pAt i = p) : ixD p = i := by rw [← hp]; exact ixD_at i h
theorem pAt_0 : pAt 0 = 127250 := rfl
theorem pAt_1 : pAt 1 = 127488 := rfl
theorem pAt_2 : pAt 2 = 128267 := rfl
theorem pAt_3 : pAt 3 = 128275 := rfl
theorem pAt_4 : pAt 4 = 129025 := rfl
theorem pAt_5 : pAt 5 = 130306 := rfl
theorem pAt_in {i : Nat} (h : i < 6) : 127250 ≤ pAt i ∧ pAt i ≤ 130306 := by
  rcases i with _ | _ | _ | _ | _ | _ | i
  · rw [pAt_0]; omega
  · rw [pAt_1]; omega
  · rw [pAt_2]; omega
  · rw [pAt_3]; omega
  · rw [pAt_4]; omega
  · rw [pAt_5]; omega
  · omega
theorem pAt_mono {i j : Nat} (hij : i < j) (hj : j < 6) : pAt i < pAt j := by
  rcases j with _ | _ | _ | _ | _ | _ | j
  all_goals first | omega | skip
  all_goals rcases i with _ | _ | _ | _ | _ | i
  all_goals first | omega | decide
/-- Ahead of a greater one there is none. -/
theorem ixD_no {p : Int} {i : Nat} (hi : i ≤ 6) (h1 : ∀ j, j < i → pAt j < p) (h2 : i < 6 → p < pAt i) : ixD p = 6 := by
  have hne : ∀ j, j < 6 → p ≠ pAt j := by
    intro j hj e
    rcases Nat.lt_or_ge j i with h | h
    · have := h1 j h
      omega
    · have h3 := h2 (by omega)
      rcases Nat.lt_or_ge i j with h4 | h4
      · have := pAt_mono h4 hj
        omega
      · obtain rfl : i = j := by omega
        omega
  have n0 := hne 0 (by omega)
  have n1 := hne 1 (by omega)
  have n2 := hne 2 (by omega)
  have n3 := hne 3 (by omega)
  have n4 := hne 4 (by omega)
  have n5 := hne 5 (by omega)
  rw [pAt_0] at n0
  rw [pAt_1] at n1
  rw [pAt_2] at n2
  rw [pAt_3] at n3
  rw [pAt_4] at n4
  rw [pAt_5] at n5
  unfold ixD
  rw [if_neg n0, if_neg n1, if_neg n2, if_neg n3, if_neg n4, if_neg n5]

/-- Objects laid down one behind the other. -/
def allocL : World → List Obj → World
  | w, [] => w
  | w, o :: r => allocL (w.alloc o) r
theorem allocL_below : ∀ (l : List Obj) (w : World), Below w.heap.size w (allocL w l)
  | [], w => Below.refl _ _
  | o :: r, w => ((Below.refl w.heap.size w).alloc (Nat.le_refl _) o).trans ((allocL_below r (w.alloc o)).mono (by simp))
theorem allocL_at : ∀ (l : List Obj) (w : World) (i : Nat) (o : Obj), l[i]? = some o → (allocL w l).heap[w.heap.size + i]? = some o
  | [], w, i, o, h => by simp at h
  | o' :: r, w, i, o, h => by
    rcases i with _ | i
    · simp at h
      subst h
      exact ((allocL_below r (w.alloc o')).block _ (by simp)).trans (heap_alloc_new w o')
    · simp at h
      have := allocL_at r (w.alloc o') i o h
      rw [show w.heap.size + (i + 1) = (w.alloc o').heap.size + i by simp; omega]
      exact this
theorem allocL_size : ∀ (l : List Obj) (w : World), (allocL w l).heap.size = w.heap.size + l.length
  | [], w => rfl
  | o :: r, w => by
    have := allocL_size r (w.alloc o)
    simp at this
    simp only [allocL, List.length_cons]
    omega

/-- The table stands in block G, the Fields of its rows in the blocks from B on. -/
structure TabAt (B G : Nat) (w : World) : Prop where
  rows : w.heap[G]? = some (.cells ((dxs B).flatMap dxL).toArray 117 (0, 0))
  flds : ∀ (i : Nat) (x : Df), dfs[i]? = some x → w.heap[B + i]? = some (.cells (x.fs.flatMap fdL).toArray 165 (0, 0))
theorem TabAt.kept {B G : Nat} {w w' : World} (h : TabAt B G w) (hb : Below w.heap.size w w') : TabAt B G w' :=
  ⟨(hb.block G (Array.getElem?_eq_some_iff.1 h.rows).1).trans h.rows, fun i x hx => (hb.block _ (Array.getElem?_eq_some_iff.1 (h.flds i x hx)).1).trans (h.flds i x hx)⟩
theorem TabAt.cells {B G : Nat} {w : World} (h : TabAt B G w) {i : Nat} (hi : i < 6) (j : Nat) (v : Value) (hv : (dxL (dxAt B i))[j]? = some v) : w.cell? ⟨G, i * 4 + j, none⟩ = some v := by
  rw [cell_of_row w G _ _ _ (0, 0) h.rows]
  have := flat_at dxL 4 dxL_len (dxs B) i _ (dxAt_some hi) j v hv
  simpa using this
theorem TabAt.lt {B G : Nat} {w : World} (h : TabAt B G w) : G < w.heap.size := (Array.getElem?_eq_some_iff.1 h.rows).1

set_option maxRecDepth 100000 in
set_option maxHeartbeats 4000000 in
theorem defs_any (w : World) :
    Calls Try.prog 124 #[] w fun e w' => ∃ G, e = .returned (.slice (some ⟨G, 0, none⟩) 6 6) ∧ TabAt w.heap.size G w' ∧ Below w.heap.size w w' := by
  have HA := Lib.hid (allocL_at [.cells (List.flatMap fdL [⟨0, 8, false⟩, ⟨8, 16, false⟩, ⟨24, 16, true⟩, ⟨40, 16, true⟩, ⟨56, 2, false⟩]).toArray 165, .cells (List.flatMap fdL [⟨0, 8, false⟩, ⟨8, 16, false⟩, ⟨24, 16, false⟩, ⟨40, 8, true⟩]).toArray 165, .cells (List.flatMap fdL [⟨0, 8, false⟩, ⟨8, 32, false⟩, ⟨40, 16, true⟩, ⟨56, 8, false⟩]).toArray 165, .cells (List.flatMap fdL [⟨0, 16, false⟩, ⟨16, 32, false⟩, ⟨48, 32, false⟩, ⟨80, 32, false⟩]).toArray 165, .cells (List.flatMap fdL [⟨0, 32, true⟩, ⟨32, 32, true⟩]).toArray 165, .cells (List.flatMap fdL [⟨0, 8, false⟩, ⟨8, 16, false⟩, ⟨24, 16, false⟩, ⟨40, 3, false⟩]).toArray 165, .cells ((dxs w.heap.size).flatMap dxL).toArray 117] w)
  have HB := Lib.hid (allocL_below [.cells (List.flatMap fdL [⟨0, 8, false⟩, ⟨8, 16, false⟩, ⟨24, 16, true⟩, ⟨40, 16, true⟩, ⟨56, 2, false⟩]).toArray 165, .cells (List.flatMap fdL [⟨0, 8, false⟩, ⟨8, 16, false⟩, ⟨24, 16, false⟩, ⟨40, 8, true⟩]).toArray 165, .cells (List.flatMap fdL [⟨0, 8, false⟩, ⟨8, 32, false⟩, ⟨40, 16, true⟩, ⟨56, 8, false⟩]).toArray 165, .cells (List.flatMap fdL [⟨0, 16, false⟩, ⟨16, 32, false⟩, ⟨48, 32, false⟩, ⟨80, 32, false⟩]).toArray 165, .cells (List.flatMap fdL [⟨0, 32, true⟩, ⟨32, 32, true⟩]).toArray 165, .cells (List.flatMap fdL [⟨0, 8, false⟩, ⟨8, 16, false⟩, ⟨24, 16, false⟩, ⟨40, 3, false⟩]).toArray 165, .cells ((dxs w.heap.size).flatMap dxL).toArray 117] w)
  go_enter Try.func124, Try.ntmps124
  go_wp2
  go_ret
  refine ⟨_, rfl, ⟨?_, ?_⟩, HB.out⟩
  · exact HA.out 6 _ rfl
  · intro i x hx
    rcases i with _ | _ | _ | _ | _ | _ | i
    · cases hx; exact HA.out 0 _ rfl
    · cases hx; exact HA.out 1 _ rfl
    · cases hx; exact HA.out 2 _ rfl
    · cases hx; exact HA.out 3 _ rfl
    · cases hx; exact HA.out 4 _ rfl
    · cases hx; exact HA.out 5 _ rfl
    · simp [dfs] at hx
set_option maxRecDepth 100000 in
theorem pgnOf_any (x : Dx) (w : World) :
    Calls Try.prog 125 #[.agg (dxL x).toArray] w fun e w' => e = .returned (.int .i64 x.p) ∧ Below w.heap.size w w' := by
  obtain ⟨p, s, r, a, n⟩ := x
  unfold dxL
  go_enter Try.func125, Try.ntmps125
  go_wp2
  go_ret
  exact ⟨rfl, (Below.refl _ _).alloc (Nat.le_refl _) _⟩
set_option maxRecDepth 100000 in
set_option maxHeartbeats 8000000 in
theorem rowOf_any (B G : Nat) (key : Int) (w : World) (h : TabAt B G w) :
    Calls Try.prog 123 #[.slice (some ⟨G, 0, none⟩) 6 6, .int .i64 key, .func (.func 125) #[] #[]] w fun e w' => e = .returned (.tuple #[.agg (dxL (dxD B key)).toArray, .bool (decide (ixD key < 6))]) ∧ Below w.heap.size w w' := by
  have HT := Lib.hid h
  have lG := h.lt
  clear h
  have H60 := Lib.hid (heap_alloc_new w (.cells #[.int .i64 0, .int .i64 0, .int .i64 0, .slice none 0 0] 117))
  have H80 := Lib.hid (heap_alloc_new (w.alloc (.cells #[.int .i64 0, .int .i64 0, .int .i64 0, .slice none 0 0] 117)) (.cells #[.int .i64 0, .int .i64 0, .int .i64 0, .slice none 0 0] 117))
  go_enter Try.func123, Try.ntmps123
  go_wp2_with fail
  go_step3
  go_wp2_with fail
  go_step3
  go_wp2_with fail
  go_loopw [9, 15] (fun v i wr => ∃ k : Nat, i = .int .i64 (k : Int) ∧ v = .bool false ∧ k ≤ 6 ∧ (∀ j, j < k → pAt j < key) ∧ Below w.heap.size w wr ∧ w.heap.size + 2 ≤ wr.heap.size ∧ wr.heap[w.heap.size]? = some (.cells #[.int .i64 0, .int .i64 0, .int .i64 0, .slice none 0 0] 117 (0, 0)) ∧ wr.heap[w.heap.size + 1]? = some (.cells #[.int .i64 0, .int .i64 0, .int .i64 0, .slice none 0 0] 117 (0, 0))) (fun _ i _ => 6 - (intOf i).toNat)
  case atStart =>
    refine ⟨0, rfl, rfl, by omega, fun j hj => absurd hj (by omega), ((Below.refl _ _).alloc (Nat.le_refl _) _).alloc (by simp) _, by simp, ?_, ?_⟩
    · rw [Below.heap_alloc _ _ _ (by simp)]
      exact H60.out
    · have := H80.out
      simpa using this
  case round =>
    obtain ⟨k, rfl, rfl, hk, hall, hb, hs2, h6, h8⟩ := hrel
    have HA := Lib.hid hall
    have H6 := Lib.hid h6
    have H8 := Lib.hid h8
    have l6 : w.heap.size < wr.heap.size := by omega
    have l8 : w.heap.size + 1 < wr.heap.size := by omega
    clear hall h6 h8 H60 H80
    by_cases hkn : k < 6
    · have hi1 : (0 : Int) ≤ (k : Int) := by omega
      have hi2 : (k : Int) < 6 := by omega
      have HCs := Lib.hid (fun j v hv => (HT.out.kept hb).cells hkn (B := B) j v hv)
      have HP := Lib.hid (dxAt_p B k)
      have HX := Lib.hid (show ∀ q, pAt k = q → q = key → dxD B key = dxAt B k from fun q h1 h2 => by unfold dxD; rw [ixD_of hkn (h1.trans h2)])
      generalize hx : dxAt B k = x at *
      obtain ⟨p, s, r, a, n⟩ := x
      unfold dxL at HCs
      dsimp only at *
      go_wp2_with (first
        | (refine wpList_load_cells rfl 117 (.tmp 17) rfl G (k * 4) rfl [.int .i64 p, .int .i64 s, .int .i64 r, .slice a n n] HCs.out _ Try.underlying117 rfl (by kernel_rfl) ?_)
        | (refine wpList_alloc_h rfl 117 rfl (.agg #[.int .i64 0, .int .i64 0, .int .i64 0, .slice none 0 0]) (by kernel_rfl) #[.int .i64 0, .int .i64 0, .int .i64 0, .slice none 0 0] rfl ?_; intro w1 R1 e1 g1 b1; have HL1 := Lib.hid (show Lg wr w1 [(R1, #[.int .i64 0, .int .i64 0, .int .i64 0, .slice none 0 0], 117)] [] from (Lg.first wr).box e1 g1 b1); clear g1 b1 e1)
        | (refine wpList_put_at rfl 117 (.tmp 11) (.tmp 18) rfl rfl (R1) 0 rfl (.agg #[.int .i64 p, .int .i64 s, .int .i64 r, .slice a n n]) rfl #[.int .i64 p, .int .i64 s, .int .i64 r, .slice a n n] rfl 117 #[.int .i64 0, .int .i64 0, .int .i64 0, .slice none 0 0] #[.int .i64 p, .int .i64 s, .int .i64 r, .slice a n n] (HL1.out.get (.head _)) (by kernel_rfl) (by kernel_rfl) (by kernel_rfl) (by kernel_rfl) ?_; intro w2 g2 o2; have HL2 := Lib.hid (show Lg wr w2 [(R1, #[.int .i64 p, .int .i64 s, .int .i64 r, .slice a n n], 117)] [] from HL1.out.put 0 rfl g2 o2 (fun _ h => nomatch h) (fun _ h => nomatch h) rfl); clear g2 o2)
        | (refine wpList_load_at rfl 117 (.tmp 11) rfl (R1) 0 rfl 117 #[.int .i64 p, .int .i64 s, .int .i64 r, .slice a n n] (0, 0) (HL2.out.get (.head _)) [.int .i64 p, .int .i64 s, .int .i64 r, .slice a n n] rfl _ Try.underlying117 rfl (by kernel_rfl) ?_))
      refine (pgnOf_any ⟨p, s, r, a, n⟩ _).mono ?_
      rintro e w3 ⟨rfl, h⟩
      have HL3 := Lib.hid (show Lg wr w3 [(R1, #[.int .i64 p, .int .i64 s, .int .i64 r, .slice a n n], 117)] [] from HL2.out.kept h)
      clear h
      have HZ6 := Lib.hid ((HL3.out.below.block w.heap.size l6).trans H6.out)
      have HZ8 := Lib.hid ((HL3.out.below.block (w.heap.size + 1) l8).trans H8.out)
      rcases Int.lt_trichotomy p key with hlt | heq | hgt
      · have e1 : (p == key) = false := by simp; omega
        have e2 : decide (key < p) = false := decide_eq_false (by omega)
        go_wp2_with fail
        go_roundw
        case rel =>
          refine ⟨k + 1, by go_num, rfl, by omega, fun j hj => ?_, hb.trans (HL3.out.below.mono hb.size), Nat.le_trans hs2 HL3.out.below.size, HZ6.out, HZ8.out⟩
          rcases Nat.lt_or_ge j k with h | h
          · exact HA.out j h
          · obtain rfl : j = k := by omega
            rw [← HP.out]
            exact hlt
        case measure => simp [intOf]; omega
      · subst heq
        have e1 : (p == p) = true := by simp
        have HV := Lib.hid (HX.out p HP.out.symm rfl)
        have HI := Lib.hid (show decide (ixD p < 6) = true from decide_eq_true (by rw [ixD_of hkn HP.out.symm]; exact hkn))
        clear HX
        have l63 := Nat.lt_of_lt_of_le l6 HL3.out.below.size
        go_wp2_with (first
          | (refine wpList_load_at rfl 117 (.tmp 11) rfl (R1) 0 rfl 117 #[.int .i64 p, .int .i64 s, .int .i64 r, .slice a n n] (0, 0) (HL3.out.get (.head _)) [.int .i64 p, .int .i64 s, .int .i64 r, .slice a n n] rfl _ Try.underlying117 rfl (by kernel_rfl) ?_)
          | (refine wpList_put_at rfl 117 (.tmp 8) (.tmp 26) rfl rfl (w.heap.size + 1) 0 rfl (.agg #[.int .i64 p, .int .i64 s, .int .i64 r, .slice a n n]) rfl #[.int .i64 p, .int .i64 s, .int .i64 r, .slice a n n] rfl 117 #[.int .i64 0, .int .i64 0, .int .i64 0, .slice none 0 0] #[.int .i64 p, .int .i64 s, .int .i64 r, .slice a n n] HZ8.out (by kernel_rfl) (by kernel_rfl) (by kernel_rfl) (by kernel_rfl) ?_; intro w4 g4 o4; have HG4 := Lib.hid g4; have HO4 := Lib.hid o4; have HZ64 := Lib.hid ((o4.block w.heap.size l63 (.inl (Nat.lt_succ_self _))).trans HZ6.out); clear g4 o4)
          | (refine wpList_load_at rfl 117 (.tmp 8) rfl (w.heap.size + 1) 0 rfl 117 #[.int .i64 p, .int .i64 s, .int .i64 r, .slice a n n] (0, 0) HG4.out [.int .i64 p, .int .i64 s, .int .i64 r, .slice a n n] rfl _ Try.underlying117 rfl (by kernel_rfl) ?_)
          | (refine wpList_put_at rfl 117 (.tmp 6) (.tmp 32) rfl rfl (w.heap.size) 0 rfl (.agg #[.int .i64 p, .int .i64 s, .int .i64 r, .slice a n n]) rfl #[.int .i64 p, .int .i64 s, .int .i64 r, .slice a n n] rfl 117 #[.int .i64 0, .int .i64 0, .int .i64 0, .slice none 0 0] #[.int .i64 p, .int .i64 s, .int .i64 r, .slice a n n] HZ64.out (by kernel_rfl) (by kernel_rfl) (by kernel_rfl) (by kernel_rfl) ?_; intro w5 g5 o5; have HG5 := Lib.hid g5; have HO5 := Lib.hid o5; clear g5 o5))
        have c0 := cell_of_row w5 w.heap.size 0 _ _ (0, 0) HG5.out
        have c1 := cell_of_row w5 w.heap.size 1 _ _ (0, 0) HG5.out
        have c2 := cell_of_row w5 w.heap.size 2 _ _ (0, 0) HG5.out
        have c3 := cell_of_row w5 w.heap.size 3 _ _ (0, 0) HG5.out
        simp only [List.getElem?_toArray, List.getElem?_cons_zero, List.getElem?_cons_succ] at c0 c1 c2 c3
        rw [Exit.noGoto_ret]
        exact bodyPost_ret (v := .tuple #[.agg #[.int .i64 p, .int .i64 s, .int .i64 r, .slice a n n], .bool true]) (by simp [results, Try.results123, go_sem, c0, c1, c2, c3]) rfl ⟨by rw [HV.out, HI.out]; rfl, HO5.out.below (HO4.out.below (hb.trans (HL3.out.below.mono hb.size)) (Nat.le_succ _) (Nat.le_trans hb.size HL3.out.below.size)) (Nat.le_refl _) (Nat.le_trans (Nat.le_trans hb.size HL3.out.below.size) HO4.out.size)⟩
      · have e1 : (p == key) = false := by simp; omega
        have e2 : decide (key < p) = true := decide_eq_true (by omega)
        have HI := Lib.hid (show ixD key = 6 from ixD_no (Nat.le_of_lt hkn) HA.out (fun _ => by rw [← HP.out]; exact hgt))
        go_wp2_with (first
          | (refine wpList_load_at rfl 117 (.tmp 8) rfl (w.heap.size + 1) 0 rfl 117 #[.int .i64 0, .int .i64 0, .int .i64 0, .slice none 0 0] (0, 0) HZ8.out [.int .i64 0, .int .i64 0, .int .i64 0, .slice none 0 0] rfl _ Try.underlying117 rfl (by kernel_rfl) ?_)
          | (refine wpList_put_at rfl 117 (.tmp 6) (.tmp 32) rfl rfl (w.heap.size) 0 rfl (.agg #[.int .i64 0, .int .i64 0, .int .i64 0, .slice none 0 0]) rfl #[.int .i64 0, .int .i64 0, .int .i64 0, .slice none 0 0] rfl 117 #[.int .i64 0, .int .i64 0, .int .i64 0, .slice none 0 0] #[.int .i64 0, .int .i64 0, .int .i64 0, .slice none 0 0] HZ6.out (by kernel_rfl) (by kernel_rfl) (by kernel_rfl) (by kernel_rfl) ?_; intro w5 g5 o5; have HG5 := Lib.hid g5; have HO5 := Lib.hid o5; clear g5 o5))
        have c0 := cell_of_row w5 w.heap.size 0 _ _ (0, 0) HG5.out
        have c1 := cell_of_row w5 w.heap.size 1 _ _ (0, 0) HG5.out
        have c2 := cell_of_row w5 w.heap.size 2 _ _ (0, 0) HG5.out
        have c3 := cell_of_row w5 w.heap.size 3 _ _ (0, 0) HG5.out
        simp only [List.getElem?_toArray, List.getElem?_cons_zero, List.getElem?_cons_succ] at c0 c1 c2 c3
        rw [Exit.noGoto_ret]
        exact bodyPost_ret (v := .tuple #[.agg #[.int .i64 0, .int .i64 0, .int .i64 0, .slice none 0 0], .bool false]) (by simp [results, Try.results123, go_sem, c0, c1, c2, c3]) rfl ⟨by unfold dxD; rw [HI.out]; rfl, HO5.out.below (hb.trans (HL3.out.below.mono hb.size)) (Nat.le_refl _) (Nat.le_trans hb.size HL3.out.below.size)⟩
    · have HI := Lib.hid (show ixD key = 6 from ixD_no (i := 6) (Nat.le_refl _) (fun j hj => HA.out j (by omega)) (fun h => absurd h (by omega)))
      go_wp2_with (first
        | (refine wpList_load_at rfl 117 (.tmp 8) rfl (w.heap.size + 1) 0 rfl 117 #[.int .i64 0, .int .i64 0, .int .i64 0, .slice none 0 0] (0, 0) H8.out [.int .i64 0, .int .i64 0, .int .i64 0, .slice none 0 0] rfl _ Try.underlying117 rfl (by kernel_rfl) ?_)
        | (refine wpList_put_at rfl 117 (.tmp 6) (.tmp 32) rfl rfl (w.heap.size) 0 rfl (.agg #[.int .i64 0, .int .i64 0, .int .i64 0, .slice none 0 0]) rfl #[.int .i64 0, .int .i64 0, .int .i64 0, .slice none 0 0] rfl 117 #[.int .i64 0, .int .i64 0, .int .i64 0, .slice none 0 0] #[.int .i64 0, .int .i64 0, .int .i64 0, .slice none 0 0] H6.out (by kernel_rfl) (by kernel_rfl) (by kernel_rfl) (by kernel_rfl) ?_; intro w5 g5 o5; have HG5 := Lib.hid g5; have HO5 := Lib.hid o5; clear g5 o5))
      have c0 := cell_of_row w5 w.heap.size 0 _ _ (0, 0) HG5.out
      have c1 := cell_of_row w5 w.heap.size 1 _ _ (0, 0) HG5.out
      have c2 := cell_of_row w5 w.heap.size 2 _ _ (0, 0) HG5.out
      have c3 := cell_of_row w5 w.heap.size 3 _ _ (0, 0) HG5.out
      simp only [List.getElem?_toArray, List.getElem?_cons_zero, List.getElem?_cons_succ] at c0 c1 c2 c3
      rw [Exit.noGoto_ret]
      exact bodyPost_ret (v := .tuple #[.agg #[.int .i64 0, .int .i64 0, .int .i64 0, .slice none 0 0], .bool false]) (by simp [results, Try.results123, go_sem, c0, c1, c2, c3]) rfl ⟨by unfold dxD; rw [HI.out]; rfl, HO5.out.below hb (Nat.le_refl _) hb.size⟩
end Go.Proofs.Ytpolpkheaibonaa
/- The row of one group: the program's and the model's. Its Fields stand in memory of the call's own. -/
namespace Go.Proofs.Ytpolpkheaibonaa
open Go.RowKit
set_option linter.unusedVariables false

/-- Where its Fields stand. -/
def aD (B : Nat) (p : Int) : Option Addr := if ixD p < 6 then some ⟨B + ixD p, 0, none⟩ else none
theorem dxD_eq (B : Nat) (p : Int) : dxD B p = ⟨(defD p).p, (defD p).s, (defD p).r, aD B p, (defD p).fs.length⟩ := by
  have h := ixD_le p
  unfold dxD defD aD
  generalize ixD p = i at *
  rcases i with _ | _ | _ | _ | _ | _ | _ | i
  all_goals first | rfl | omega
theorem TabAt.hi {B G : Nat} {w : World} (h : TabAt B G w) : B + 6 ≤ w.heap.size := (Array.getElem?_eq_some_iff.1 (h.flds 5 _ rfl)).1
theorem flds_new {B G : Nat} {w : World} {lo hi : Nat} (h : TabAt B G w) (hlo : lo ≤ B) (hhi : B + 6 ≤ hi) (p : Int) : RsNew fdL 3 165 lo hi w (aD B p) (defD p).fs := by
  unfold aD
  by_cases hp : ixD p < 6
  · rw [if_pos hp]
    obtain ⟨x, hx⟩ : ∃ x, dfs[ixD p]? = some x := ⟨_, List.getElem?_eq_getElem (show ixD p < dfs.length from hp)⟩
    have hd : defD p = x := by unfold defD; rw [hx]; rfl
    rw [hd]
    refine .inr ⟨B + ixD p, 0, _, rfl, by omega, by omega, h.flds _ x hx, by simp [flat_len fdL 3 fdL_len], fun i y hy j v hv => ?_⟩
    have := flat_at fdL 3 fdL_len x.fs i y hy j v hv
    simpa using this
  · have hd : defD p = ⟨0, 0, 0, []⟩ := by
      unfold defD
      rw [List.getElem?_eq_none (show dfs.length ≤ ixD p from by show 6 ≤ _; omega)]
      rfl
    rw [hd]
    exact .inl rfl
theorem rowOf_d (B G : Nat) (p : Int) (w : World) (h : TabAt B G w) :
    Calls Try.prog 123 #[.slice (some ⟨G, 0, none⟩) 6 6, .int .i64 p, .func (.func 125) #[] #[]] w fun e w' => e = .returned (.tuple #[.agg #[.int .i64 (defD p).p, .int .i64 (defD p).s, .int .i64 (defD p).r, .slice (aD B p) (defD p).fs.length (defD p).fs.length], .bool (decide (ixD p < 6))]) ∧ Below w.heap.size w w' := by
  have := rowOf_any B G p w h
  rw [dxD_eq] at this
  exact this
theorem defD_len (p : Int) : (defD p).fs.length ≤ 5 := by
  have h := ixD_le p
  unfold defD
  generalize ixD p = i at *
  rcases i with _ | _ | _ | _ | _ | _ | _ | i
  all_goals first | decide | omega
/-- What DefOf answers. -/
def DefOut (p : Int) (w : World) (e : Ending) (w' : World) : Prop :=
  ∃ a, e = .returned (.agg #[.int .i64 (defD p).p, .int .i64 (defD p).s, .int .i64 (defD p).r, .slice a (defD p).fs.length (defD p).fs.length]) ∧ RsNew fdL 3 165 w.heap.size w'.heap.size w' a (defD p).fs ∧ Below w.heap.size w w'

theorem l08Plain_any (a b : Int) (w : World) :
    Calls Try.prog 114 #[.int .i64 a, .int .i64 b] w fun e w' => e = .returned (.agg #[.int .i64 a, .int .i64 b, .bool false]) ∧ Below w.heap.size w w' := by
  go_enter Try.func114, Try.ntmps114
  go_wp2
  exact bodyPost_ret (v := .agg #[.int .i64 a, .int .i64 b, .bool false]) (by simp [results, Try.results114, go_sem]) rfl ⟨rfl, (Below.refl _ _).alloc (Nat.le_refl _) _⟩
theorem l08Signed_any (a b : Int) (w : World) :
    Calls Try.prog 115 #[.int .i64 a, .int .i64 b] w fun e w' => e = .returned (.agg #[.int .i64 a, .int .i64 b, .bool true]) ∧ Below w.heap.size w w' := by
  go_enter Try.func115, Try.ntmps115
  go_wp2
  exact bodyPost_ret (v := .agg #[.int .i64 a, .int .i64 b, .bool true]) (by simp [results, Try.results115, go_sem]) rfl ⟨rfl, (Below.refl _ _).alloc (Nat.le_refl _) _⟩
set_option maxRecDepth 100000 in
set_option maxHeartbeats 4000000 in
theorem specDefOf_0 (w : World) : Calls Try.prog 71 #[.int .i64 127250] w (DefOut 127250 w) := by
  unfold DefOut
  have hd : defD 127250 = ⟨127250, 8, 2, [⟨0, 8, false⟩, ⟨8, 16, false⟩, ⟨24, 16, true⟩, ⟨40, 16, true⟩, ⟨56, 2, false⟩]⟩ := rfl
  rw [hd]
  dsimp only [List.length_cons, List.length_nil]
  clear hd
  go_enter Try.func71, Try.ntmps71
  go_wp2_with (first
    | (refine wpList_alloc_h rfl 117 rfl (.agg #[.int .i64 0, .int .i64 0, .int .i64 0, .slice none 0 0]) (by kernel_rfl) #[.int .i64 0, .int .i64 0, .int .i64 0, .slice none 0 0] rfl ?_; intro w1 R1 e1 g1 b1; have HL1 := Lib.hid (show Lg w w1 [(R1, #[.int .i64 0, .int .i64 0, .int .i64 0, .slice none 0 0], 117)] [] from (Lg.first w).box e1 g1 b1); clear g1 b1 e1))
  refine (l08Plain_any 0 8 _).mono ?_
  rintro e w2 ⟨rfl, h⟩
  have HL2 := Lib.hid (show Lg w w2 [(R1, #[.int .i64 0, .int .i64 0, .int .i64 0, .slice none 0 0], 117)] [] from HL1.out.kept h)
  clear h
  go_wp2_with fail
  refine (l08Plain_any 8 16 _).mono ?_
  rintro e w3 ⟨rfl, h⟩
  have HL3 := Lib.hid (show Lg w w3 [(R1, #[.int .i64 0, .int .i64 0, .int .i64 0, .slice none 0 0], 117)] [] from HL2.out.kept h)
  clear h
  go_wp2_with fail
  refine (l08Signed_any 24 16 _).mono ?_
  rintro e w4 ⟨rfl, h⟩
  have HL4 := Lib.hid (show Lg w w4 [(R1, #[.int .i64 0, .int .i64 0, .int .i64 0, .slice none 0 0], 117)] [] from HL3.out.kept h)
  clear h
  go_wp2_with fail
  refine (l08Signed_any 40 16 _).mono ?_
  rintro e w5 ⟨rfl, h⟩
  have HL5 := Lib.hid (show Lg w w5 [(R1, #[.int .i64 0, .int .i64 0, .int .i64 0, .slice none 0 0], 117)] [] from HL4.out.kept h)
  clear h
  go_wp2_with fail
  refine (l08Plain_any 56 2 _).mono ?_
  rintro e w6 ⟨rfl, h⟩
  have HL6 := Lib.hid (show Lg w w6 [(R1, #[.int .i64 0, .int .i64 0, .int .i64 0, .slice none 0 0], 117)] [] from HL5.out.kept h)
  clear h
  obtain ⟨L, eL⟩ : ∃ x, w6.heap.size = x := ⟨_, rfl⟩
  obtain ⟨U, eU⟩ : ∃ U, w6.alloc (.cells #[.int .i64 0, .int .i64 8, .bool false, .int .i64 8, .int .i64 16, .bool false, .int .i64 24, .int .i64 16, .bool true, .int .i64 40, .int .i64 16, .bool true, .int .i64 56, .int .i64 2, .bool false] 165) = U := ⟨_, rfl⟩
  obtain ⟨H, eH⟩ : ∃ x, U.heap.size = x := ⟨_, rfl⟩
  have hbU : Below w6.heap.size w6 U := by rw [← eU]; exact (Below.refl _ _).alloc (Nat.le_refl _) _
  have hnU : RsNew fdL 3 165 L H U (some ⟨L, 0, none⟩) [⟨0, 8, false⟩, ⟨8, 16, false⟩, ⟨24, 16, true⟩, ⟨40, 16, true⟩, ⟨56, 2, false⟩] := .inr ⟨L, 0, _, rfl, Nat.le_refl _, by rw [← eL, ← eH, ← eU]; simp, by rw [← eL, ← eU]; exact heap_alloc_new _ _, by decide, fun i y hy j v hv => by
      have := flat_at fdL 3 fdL_len [⟨0, 8, false⟩, ⟨8, 16, false⟩, ⟨24, 16, true⟩, ⟨40, 16, true⟩, ⟨56, 2, false⟩] i y hy j v hv
      simpa [fdL] using this⟩
  have qL_R1 : R1 < L := Nat.lt_of_lt_of_eq (HL6.out.lt (.head _)) eL
  have HL7 := Lib.hid (show Lg w U [(R1, #[.int .i64 0, .int .i64 0, .int .i64 0, .slice none 0 0], 117)] [(L, H, fun W => RsNew fdL 3 165 L H W (some ⟨L, 0, none⟩) [⟨0, 8, false⟩, ⟨8, 16, false⟩, ⟨24, 16, true⟩, ⟨40, 16, true⟩, ⟨56, 2, false⟩])] from HL6.out.made eL eH hbU hnU.solid)
  clear hbU hnU
  go_wp2_with (first
    | (rw [eU, eL]; refine wpList_put_at rfl 117 (.tmp 2) (.tmp 13) rfl rfl (R1) 0 rfl (.agg #[.int .i64 127250, .int .i64 8, .int .i64 2, .slice (some ⟨L, 0, none⟩) 5 5]) rfl #[.int .i64 127250, .int .i64 8, .int .i64 2, .slice (some ⟨L, 0, none⟩) 5 5] rfl 117 #[.int .i64 0, .int .i64 0, .int .i64 0, .slice none 0 0] #[.int .i64 127250, .int .i64 8, .int .i64 2, .slice (some ⟨L, 0, none⟩) 5 5] (HL7.out.get (.head _)) (by kernel_rfl) (by kernel_rfl) (by kernel_rfl) (by kernel_rfl) ?_; intro w8 g8 o8; have HL8 := Lib.hid (show Lg w w8 [(R1, #[.int .i64 127250, .int .i64 8, .int .i64 2, .slice (some ⟨L, 0, none⟩) 5 5], 117)] [(L, H, fun W => RsNew fdL 3 165 L H W (some ⟨L, 0, none⟩) [⟨0, 8, false⟩, ⟨8, 16, false⟩, ⟨24, 16, true⟩, ⟨40, 16, true⟩, ⟨56, 2, false⟩])] from HL7.out.put 0 rfl g8 o8 (fun _ h => nomatch h) (List.forall_mem_cons.2 ⟨.inr qL_R1, (fun _ h => nomatch h)⟩) rfl); clear g8 o8)
    | (refine wpList_put_at rfl 117 (.tmp 2) (.tmp 13) rfl rfl (R1) 0 rfl (.agg #[.int .i64 127250, .int .i64 8, .int .i64 2, .slice (some ⟨L, 0, none⟩) 5 5]) rfl #[.int .i64 127250, .int .i64 8, .int .i64 2, .slice (some ⟨L, 0, none⟩) 5 5] rfl 117 #[.int .i64 0, .int .i64 0, .int .i64 0, .slice none 0 0] #[.int .i64 127250, .int .i64 8, .int .i64 2, .slice (some ⟨L, 0, none⟩) 5 5] (HL7.out.get (.head _)) (by kernel_rfl) (by kernel_rfl) (by kernel_rfl) (by kernel_rfl) ?_; intro w8 g8 o8; have HL8 := Lib.hid (show Lg w w8 [(R1, #[.int .i64 127250, .int .i64 8, .int .i64 2, .slice (some ⟨L, 0, none⟩) 5 5], 117)] [(L, H, fun W => RsNew fdL 3 165 L H W (some ⟨L, 0, none⟩) [⟨0, 8, false⟩, ⟨8, 16, false⟩, ⟨24, 16, true⟩, ⟨40, 16, true⟩, ⟨56, 2, false⟩])] from HL7.out.put 0 rfl g8 o8 (fun _ h => nomatch h) (List.forall_mem_cons.2 ⟨.inr qL_R1, (fun _ h => nomatch h)⟩) rfl); clear g8 o8))
  exact bodyPost_ret (results_cell_row (p := 2) (ty := 117) (by kernel_rfl) _ _ (R1) 117 _ (0, 0) _ rfl (HL8.out.get (.head _)) Try.underlying117 rfl (by kernel_rfl)) rfl ⟨_, rfl, ((HL8.out.at (.head _)).wide (HL8.out.lo (.head _)) (HL8.out.hi (.head _)).2), HL8.out.below⟩
set_option maxRecDepth 100000 in
set_option maxHeartbeats 4000000 in
theorem specDefOf_1 (w : World) : Calls Try.prog 71 #[.int .i64 127488] w (DefOut 127488 w) := by
  unfold DefOut
  have hd : defD 127488 = ⟨127488, 8, 2, [⟨0, 8, false⟩, ⟨8, 16, false⟩, ⟨24, 16, false⟩, ⟨40, 8, true⟩]⟩ := rfl
  rw [hd]
  dsimp only [List.length_cons, List.length_nil]
  clear hd
  have n0 : ((127488 : Int) == 127250) = false := by decide
  go_enter Try.func71, Try.ntmps71
  go_wp2_with (first
    | (refine wpList_alloc_h rfl 117 rfl (.agg #[.int .i64 0, .int .i64 0, .int .i64 0, .slice none 0 0]) (by kernel_rfl) #[.int .i64 0, .int .i64 0, .int .i64 0, .slice none 0 0] rfl ?_; intro w1 R1 e1 g1 b1; have HL1 := Lib.hid (show Lg w w1 [(R1, #[.int .i64 0, .int .i64 0, .int .i64 0, .slice none 0 0], 117)] [] from (Lg.first w).box e1 g1 b1); clear g1 b1 e1))
  refine (l08Plain_any 0 8 _).mono ?_
  rintro e w2 ⟨rfl, h⟩
  have HL2 := Lib.hid (show Lg w w2 [(R1, #[.int .i64 0, .int .i64 0, .int .i64 0, .slice none 0 0], 117)] [] from HL1.out.kept h)
  clear h
  go_wp2_with fail
  refine (l08Plain_any 8 16 _).mono ?_
  rintro e w3 ⟨rfl, h⟩
  have HL3 := Lib.hid (show Lg w w3 [(R1, #[.int .i64 0, .int .i64 0, .int .i64 0, .slice none 0 0], 117)] [] from HL2.out.kept h)
  clear h
  go_wp2_with fail
  refine (l08Plain_any 24 16 _).mono ?_
  rintro e w4 ⟨rfl, h⟩
  have HL4 := Lib.hid (show Lg w w4 [(R1, #[.int .i64 0, .int .i64 0, .int .i64 0, .slice none 0 0], 117)] [] from HL3.out.kept h)
  clear h
  go_wp2_with fail
  refine (l08Signed_any 40 8 _).mono ?_
  rintro e w5 ⟨rfl, h⟩
  have HL5 := Lib.hid (show Lg w w5 [(R1, #[.int .i64 0, .int .i64 0, .int .i64 0, .slice none 0 0], 117)] [] from HL4.out.kept h)
  clear h
  obtain ⟨L, eL⟩ : ∃ x, w5.heap.size = x := ⟨_, rfl⟩
  obtain ⟨U, eU⟩ : ∃ U, w5.alloc (.cells #[.int .i64 0, .int .i64 8, .bool false, .int .i64 8, .int .i64 16, .bool false, .int .i64 24, .int .i64 16, .bool false, .int .i64 40, .int .i64 8, .bool true] 165) = U := ⟨_, rfl⟩
  obtain ⟨H, eH⟩ : ∃ x, U.heap.size = x := ⟨_, rfl⟩
  have hbU : Below w5.heap.size w5 U := by rw [← eU]; exact (Below.refl _ _).alloc (Nat.le_refl _) _
  have hnU : RsNew fdL 3 165 L H U (some ⟨L, 0, none⟩) [⟨0, 8, false⟩, ⟨8, 16, false⟩, ⟨24, 16, false⟩, ⟨40, 8, true⟩] := .inr ⟨L, 0, _, rfl, Nat.le_refl _, by rw [← eL, ← eH, ← eU]; simp, by rw [← eL, ← eU]; exact heap_alloc_new _ _, by decide, fun i y hy j v hv => by
      have := flat_at fdL 3 fdL_len [⟨0, 8, false⟩, ⟨8, 16, false⟩, ⟨24, 16, false⟩, ⟨40, 8, true⟩] i y hy j v hv
      simpa [fdL] using this⟩
  have qL_R1 : R1 < L := Nat.lt_of_lt_of_eq (HL5.out.lt (.head _)) eL
  have HL6 := Lib.hid (show Lg w U [(R1, #[.int .i64 0, .int .i64 0, .int .i64 0, .slice none 0 0], 117)] [(L, H, fun W => RsNew fdL 3 165 L H W (some ⟨L, 0, none⟩) [⟨0, 8, false⟩, ⟨8, 16, false⟩, ⟨24, 16, false⟩, ⟨40, 8, true⟩])] from HL5.out.made eL eH hbU hnU.solid)
  clear hbU hnU
  go_wp2_with (first
    | (rw [eU, eL]; refine wpList_put_at rfl 117 (.tmp 2) (.tmp 22) rfl rfl (R1) 0 rfl (.agg #[.int .i64 127488, .int .i64 8, .int .i64 2, .slice (some ⟨L, 0, none⟩) 4 4]) rfl #[.int .i64 127488, .int .i64 8, .int .i64 2, .slice (some ⟨L, 0, none⟩) 4 4] rfl 117 #[.int .i64 0, .int .i64 0, .int .i64 0, .slice none 0 0] #[.int .i64 127488, .int .i64 8, .int .i64 2, .slice (some ⟨L, 0, none⟩) 4 4] (HL6.out.get (.head _)) (by kernel_rfl) (by kernel_rfl) (by kernel_rfl) (by kernel_rfl) ?_; intro w7 g7 o7; have HL7 := Lib.hid (show Lg w w7 [(R1, #[.int .i64 127488, .int .i64 8, .int .i64 2, .slice (some ⟨L, 0, none⟩) 4 4], 117)] [(L, H, fun W => RsNew fdL 3 165 L H W (some ⟨L, 0, none⟩) [⟨0, 8, false⟩, ⟨8, 16, false⟩, ⟨24, 16, false⟩, ⟨40, 8, true⟩])] from HL6.out.put 0 rfl g7 o7 (fun _ h => nomatch h) (List.forall_mem_cons.2 ⟨.inr qL_R1, (fun _ h => nomatch h)⟩) rfl); clear g7 o7)
    | (refine wpList_put_at rfl 117 (.tmp 2) (.tmp 22) rfl rfl (R1) 0 rfl (.agg #[.int .i64 127488, .int .i64 8, .int .i64 2, .slice (some ⟨L, 0, none⟩) 4 4]) rfl #[.int .i64 127488, .int .i64 8, .int .i64 2, .slice (some ⟨L, 0, none⟩) 4 4] rfl 117 #[.int .i64 0, .int .i64 0, .int .i64 0, .slice none 0 0] #[.int .i64 127488, .int .i64 8, .int .i64 2, .slice (some ⟨L, 0, none⟩) 4 4] (HL6.out.get (.head _)) (by kernel_rfl) (by kernel_rfl) (by kernel_rfl) (by kernel_rfl) ?_; intro w7 g7 o7; have HL7 := Lib.hid (show Lg w w7 [(R1, #[.int .i64 127488, .int .i64 8, .int .i64 2, .slice (some ⟨L, 0, none⟩) 4 4], 117)] [(L, H, fun W => RsNew fdL 3 165 L H W (some ⟨L, 0, none⟩) [⟨0, 8, false⟩, ⟨8, 16, false⟩, ⟨24, 16, false⟩, ⟨40, 8, true⟩])] from HL6.out.put 0 rfl g7 o7 (fun _ h => nomatch h) (List.forall_mem_cons.2 ⟨.inr qL_R1, (fun _ h => nomatch h)⟩) rfl); clear g7 o7))
  exact bodyPost_ret (results_cell_row (p := 2) (ty := 117) (by kernel_rfl) _ _ (R1) 117 _ (0, 0) _ rfl (HL7.out.get (.head _)) Try.underlying117 rfl (by kernel_rfl)) rfl ⟨_, rfl, ((HL7.out.at (.head _)).wide (HL7.out.lo (.head _)) (HL7.out.hi (.head _)).2), HL7.out.below⟩
set_option maxRecDepth 100000 in
set_option maxHeartbeats 4000000 in
theorem specDefOf_2 (w : World) : Calls Try.prog 71 #[.int .i64 128267] w (DefOut 128267 w) := by
  unfold DefOut
  have hd : defD 128267 = ⟨128267, 8, 3, [⟨0, 8, false⟩, ⟨8, 32, false⟩, ⟨40, 16, true⟩, ⟨56, 8, false⟩]⟩ := rfl
  rw [hd]
  dsimp only [List.length_cons, List.length_nil]
  clear hd
  have n0 : ((128267 : Int) == 127250) = false := by decide
  have n1 : ((128267 : Int) == 127488) = false := by decide
  go_enter Try.func71, Try.ntmps71
  go_wp2_with (first
    | (refine wpList_alloc_h rfl 117 rfl (.agg #[.int .i64 0, .int .i64 0, .int .i64 0, .slice none 0 0]) (by kernel_rfl) #[.int .i64 0, .int .i64 0, .int .i64 0, .slice none 0 0] rfl ?_; intro w1 R1 e1 g1 b1; have HL1 := Lib.hid (show Lg w w1 [(R1, #[.int .i64 0, .int .i64 0, .int .i64 0, .slice none 0 0], 117)] [] from (Lg.first w).box e1 g1 b1); clear g1 b1 e1))
  refine (l08Plain_any 0 8 _).mono ?_
  rintro e w2 ⟨rfl, h⟩
  have HL2 := Lib.hid (show Lg w w2 [(R1, #[.int .i64 0, .int .i64 0, .int .i64 0, .slice none 0 0], 117)] [] from HL1.out.kept h)
  clear h
  go_wp2_with fail
  refine (l08Plain_any 8 32 _).mono ?_
  rintro e w3 ⟨rfl, h⟩
  have HL3 := Lib.hid (show Lg w w3 [(R1, #[.int .i64 0, .int .i64 0, .int .i64 0, .slice none 0 0], 117)] [] from HL2.out.kept h)
  clear h
  go_wp2_with fail
  refine (l08Signed_any 40 16 _).mono ?_
  rintro e w4 ⟨rfl, h⟩
  have HL4 := Lib.hid (show Lg w w4 [(R1, #[.int .i64 0, .int .i64 0, .int .i64 0, .slice none 0 0], 117)] [] from HL3.out.kept h)
  clear h
  go_wp2_with fail
  refine (l08Plain_any 56 8 _).mono ?_
  rintro e w5 ⟨rfl, h⟩
  have HL5 := Lib.hid (show Lg w w5 [(R1, #[.int .i64 0, .int .i64 0, .int .i64 0, .slice none 0 0], 117)] [] from HL4.out.kept h)
  clear h
  obtain ⟨L, eL⟩ : ∃ x, w5.heap.size = x := ⟨_, rfl⟩
  obtain ⟨U, eU⟩ : ∃ U, w5.alloc (.cells #[.int .i64 0, .int .i64 8, .bool false, .int .i64 8, .int .i64 32, .bool false, .int .i64 40, .int .i64 16, .bool true, .int .i64 56, .int .i64 8, .bool false] 165) = U := ⟨_, rfl⟩
  obtain ⟨H, eH⟩ : ∃ x, U.heap.size = x := ⟨_, rfl⟩
  have hbU : Below w5.heap.size w5 U := by rw [← eU]; exact (Below.refl _ _).alloc (Nat.le_refl _) _
  have hnU : RsNew fdL 3 165 L H U (some ⟨L, 0, none⟩) [⟨0, 8, false⟩, ⟨8, 32, false⟩, ⟨40, 16, true⟩, ⟨56, 8, false⟩] := .inr ⟨L, 0, _, rfl, Nat.le_refl _, by rw [← eL, ← eH, ← eU]; simp, by rw [← eL, ← eU]; exact heap_alloc_new _ _, by decide, fun i y hy j v hv => by
      have := flat_at fdL 3 fdL_len [⟨0, 8, false⟩, ⟨8, 32, false⟩, ⟨40, 16, true⟩, ⟨56, 8, false⟩] i y hy j v hv
      simpa [fdL] using this⟩
  have qL_R1 : R1 < L := Nat.lt_of_lt_of_eq (HL5.out.lt (.head _)) eL
  have HL6 := Lib.hid (show Lg w U [(R1, #[.int .i64 0, .int .i64 0, .int .i64 0, .slice none 0 0], 117)] [(L, H, fun W => RsNew fdL 3 165 L H W (some ⟨L, 0, none⟩) [⟨0, 8, false⟩, ⟨8, 32, false⟩, ⟨40, 16, true⟩, ⟨56, 8, false⟩])] from HL5.out.made eL eH hbU hnU.solid)
  clear hbU hnU
  go_wp2_with (first
    | (rw [eU, eL]; refine wpList_put_at rfl 117 (.tmp 2) (.tmp 31) rfl rfl (R1) 0 rfl (.agg #[.int .i64 128267, .int .i64 8, .int .i64 3, .slice (some ⟨L, 0, none⟩) 4 4]) rfl #[.int .i64 128267, .int .i64 8, .int .i64 3, .slice (some ⟨L, 0, none⟩) 4 4] rfl 117 #[.int .i64 0, .int .i64 0, .int .i64 0, .slice none 0 0] #[.int .i64 128267, .int .i64 8, .int .i64 3, .slice (some ⟨L, 0, none⟩) 4 4] (HL6.out.get (.head _)) (by kernel_rfl) (by kernel_rfl) (by kernel_rfl) (by kernel_rfl) ?_; intro w7 g7 o7; have HL7 := Lib.hid (show Lg w w7 [(R1, #[.int .i64 128267, .int .i64 8, .int .i64 3, .slice (some ⟨L, 0, none⟩) 4 4], 117)] [(L, H, fun W => RsNew fdL 3 165 L H W (some ⟨L, 0, none⟩) [⟨0, 8, false⟩, ⟨8, 32, false⟩, ⟨40, 16, true⟩, ⟨56, 8, false⟩])] from HL6.out.put 0 rfl g7 o7 (fun _ h => nomatch h) (List.forall_mem_cons.2 ⟨.inr qL_R1, (fun _ h => nomatch h)⟩) rfl); clear g7 o7)
    | (refine wpList_put_at rfl 117 (.tmp 2) (.tmp 31) rfl rfl (R1) 0 rfl (.agg #[.int .i64 128267, .int .i64 8, .int .i64 3, .slice (some ⟨L, 0, none⟩) 4 4]) rfl #[.int .i64 128267, .int .i64 8, .int .i64 3, .slice (some ⟨L, 0, none⟩) 4 4] rfl 117 #[.int .i64 0, .int .i64 0, .int .i64 0, .slice none 0 0] #[.int .i64 128267, .int .i64 8, .int .i64 3, .slice (some ⟨L, 0, none⟩) 4 4] (HL6.out.get (.head _)) (by kernel_rfl) (by kernel_rfl) (by kernel_rfl) (by kernel_rfl) ?_; intro w7 g7 o7; have HL7 := Lib.hid (show Lg w w7 [(R1, #[.int .i64 128267, .int .i64 8, .int .i64 3, .slice (some ⟨L, 0, none⟩) 4 4], 117)] [(L, H, fun W => RsNew fdL 3 165 L H W (some ⟨L, 0, none⟩) [⟨0, 8, false⟩, ⟨8, 32, false⟩, ⟨40, 16, true⟩, ⟨56, 8, false⟩])] from HL6.out.put 0 rfl g7 o7 (fun _ h => nomatch h) (List.forall_mem_cons.2 ⟨.inr qL_R1, (fun _ h => nomatch h)⟩) rfl); clear g7 o7))
  exact bodyPost_ret (results_cell_row (p := 2) (ty := 117) (by kernel_rfl) _ _ (R1) 117 _ (0, 0) _ rfl (HL7.out.get (.head _)) Try.underlying117 rfl (by kernel_rfl)) rfl ⟨_, rfl, ((HL7.out.at (.head _)).wide (HL7.out.lo (.head _)) (HL7.out.hi (.head _)).2), HL7.out.below⟩
set_option maxRecDepth 100000 in
set_option maxHeartbeats 4000000 in
theorem specDefOf_3 (w : World) : Calls Try.prog 71 #[.int .i64 128275] w (DefOut 128275 w) := by
  unfold DefOut
  have hd : defD 128275 = ⟨128275, 14, 6, [⟨0, 16, false⟩, ⟨16, 32, false⟩, ⟨48, 32, false⟩, ⟨80, 32, false⟩]⟩ := rfl
  rw [hd]
  dsimp only [List.length_cons, List.length_nil]
  clear hd
  have n0 : ((128275 : Int) == 127250) = false := by decide
  have n1 : ((128275 : Int) == 127488) = false := by decide
  have n2 : ((128275 : Int) == 128267) = false := by decide
  go_enter Try.func71, Try.ntmps71
  go_wp2_with (first
    | (refine wpList_alloc_h rfl 117 rfl (.agg #[.int .i64 0, .int .i64 0, .int .i64 0, .slice none 0 0]) (by kernel_rfl) #[.int .i64 0, .int .i64 0, .int .i64 0, .slice none 0 0] rfl ?_; intro w1 R1 e1 g1 b1; have HL1 := Lib.hid (show Lg w w1 [(R1, #[.int .i64 0, .int .i64 0, .int .i64 0, .slice none 0 0], 117)] [] from (Lg.first w).box e1 g1 b1); clear g1 b1 e1))
  refine (l08Plain_any 0 16 _).mono ?_
  rintro e w2 ⟨rfl, h⟩
  have HL2 := Lib.hid (show Lg w w2 [(R1, #[.int .i64 0, .int .i64 0, .int .i64 0, .slice none 0 0], 117)] [] from HL1.out.kept h)
  clear h
  go_wp2_with fail
  refine (l08Plain_any 16 32 _).mono ?_
  rintro e w3 ⟨rfl, h⟩
  have HL3 := Lib.hid (show Lg w w3 [(R1, #[.int .i64 0, .int .i64 0, .int .i64 0, .slice none 0 0], 117)] [] from HL2.out.kept h)
  clear h
  go_wp2_with fail
  refine (l08Plain_any 48 32 _).mono ?_
  rintro e w4 ⟨rfl, h⟩
  have HL4 := Lib.hid (show Lg w w4 [(R1, #[.int .i64 0, .int .i64 0, .int .i64 0, .slice none 0 0], 117)] [] from HL3.out.kept h)
  clear h
  go_wp2_with fail
  refine (l08Plain_any 80 32 _).mono ?_
  rintro e w5 ⟨rfl, h⟩
  have HL5 := Lib.hid (show Lg w w5 [(R1, #[.int .i64 0, .int .i64 0, .int .i64 0, .slice none 0 0], 117)] [] from HL4.out.kept h)
  clear h
  obtain ⟨L, eL⟩ : ∃ x, w5.heap.size = x := ⟨_, rfl⟩
  obtain ⟨U, eU⟩ : ∃ U, w5.alloc (.cells #[.int .i64 0, .int .i64 16, .bool false, .int .i64 16, .int .i64 32, .bool false, .int .i64 48, .int .i64 32, .bool false, .int .i64 80, .int .i64 32, .bool false] 165) = U := ⟨_, rfl⟩
  obtain ⟨H, eH⟩ : ∃ x, U.heap.size = x := ⟨_, rfl⟩
  have hbU : Below w5.heap.size w5 U := by rw [← eU]; exact (Below.refl _ _).alloc (Nat.le_refl _) _
  have hnU : RsNew fdL 3 165 L H U (some ⟨L, 0, none⟩) [⟨0, 16, false⟩, ⟨16, 32, false⟩, ⟨48, 32, false⟩, ⟨80, 32, false⟩] := .inr ⟨L, 0, _, rfl, Nat.le_refl _, by rw [← eL, ← eH, ← eU]; simp, by rw [← eL, ← eU]; exact heap_alloc_new _ _, by decide, fun i y hy j v hv => by
      have := flat_at fdL 3 fdL_len [⟨0, 16, false⟩, ⟨16, 32, false⟩, ⟨48, 32, false⟩, ⟨80, 32, false⟩] i y hy j v hv
      simpa [fdL] using this⟩
  have qL_R1 : R1 < L := Nat.lt_of_lt_of_eq (HL5.out.lt (.head _)) eL
  have HL6 := Lib.hid (show Lg w U [(R1, #[.int .i64 0, .int .i64 0, .int .i64 0, .slice none 0 0], 117)] [(L, H, fun W => RsNew fdL 3 165 L H W (some ⟨L, 0, none⟩) [⟨0, 16, false⟩, ⟨16, 32, false⟩, ⟨48, 32, false⟩, ⟨80, 32, false⟩])] from HL5.out.made eL eH hbU hnU.solid)
  clear hbU hnU
  go_wp2_with (first
    | (rw [eU, eL]; refine wpList_put_at rfl 117 (.tmp 2) (.tmp 40) rfl rfl (R1) 0 rfl (.agg #[.int .i64 128275, .int .i64 14, .int .i64 6, .slice (some ⟨L, 0, none⟩) 4 4]) rfl #[.int .i64 128275, .int .i64 14, .int .i64 6, .slice (some ⟨L, 0, none⟩) 4 4] rfl 117 #[.int .i64 0, .int .i64 0, .int .i64 0, .slice none 0 0] #[.int .i64 128275, .int .i64 14, .int .i64 6, .slice (some ⟨L, 0, none⟩) 4 4] (HL6.out.get (.head _)) (by kernel_rfl) (by kernel_rfl) (by kernel_rfl) (by kernel_rfl) ?_; intro w7 g7 o7; have HL7 := Lib.hid (show Lg w w7 [(R1, #[.int .i64 128275, .int .i64 14, .int .i64 6, .slice (some ⟨L, 0, none⟩) 4 4], 117)] [(L, H, fun W => RsNew fdL 3 165 L H W (some ⟨L, 0, none⟩) [⟨0, 16, false⟩, ⟨16, 32, false⟩, ⟨48, 32, false⟩, ⟨80, 32, false⟩])] from HL6.out.put 0 rfl g7 o7 (fun _ h => nomatch h) (List.forall_mem_cons.2 ⟨.inr qL_R1, (fun _ h => nomatch h)⟩) rfl); clear g7 o7)
    | (refine wpList_put_at rfl 117 (.tmp 2) (.tmp 40) rfl rfl (R1) 0 rfl (.agg #[.int .i64 128275, .int .i64 14, .int .i64 6, .slice (some ⟨L, 0, none⟩) 4 4]) rfl #[.int .i64 128275, .int .i64 14, .int .i64 6, .slice (some ⟨L, 0, none⟩) 4 4] rfl 117 #[.int .i64 0, .int .i64 0, .int .i64 0, .slice none 0 0] #[.int .i64 128275, .int .i64 14, .int .i64 6, .slice (some ⟨L, 0, none⟩) 4 4] (HL6.out.get (.head _)) (by kernel_rfl) (by kernel_rfl) (by kernel_rfl) (by kernel_rfl) ?_; intro w7 g7 o7; have HL7 := Lib.hid (show Lg w w7 [(R1, #[.int .i64 128275, .int .i64 14, .int .i64 6, .slice (some ⟨L, 0, none⟩) 4 4], 117)] [(L, H, fun W => RsNew fdL 3 165 L H W (some ⟨L, 0, none⟩) [⟨0, 16, false⟩, ⟨16, 32, false⟩, ⟨48, 32, false⟩, ⟨80, 32, false⟩])] from HL6.out.put 0 rfl g7 o7 (fun _ h => nomatch h) (List.forall_mem_cons.2 ⟨.inr qL_R1, (fun _ h => nomatch h)⟩) rfl); clear g7 o7))
  exact bodyPost_ret (results_cell_row (p := 2) (ty := 117) (by kernel_rfl) _ _ (R1) 117 _ (0, 0) _ rfl (HL7.out.get (.head _)) Try.underlying117 rfl (by kernel_rfl)) rfl ⟨_, rfl, ((HL7.out.at (.head _)).wide (HL7.out.lo (.head _)) (HL7.out.hi (.head _)).2), HL7.out.below⟩
set_option maxRecDepth 100000 in
set_option maxHeartbeats 4000000 in
theorem specDefOf_4 (w : World) : Calls Try.prog 71 #[.int .i64 129025] w (DefOut 129025 w) := by
  unfold DefOut
  have hd : defD 129025 = ⟨129025, 8, 2, [⟨0, 32, true⟩, ⟨32, 32, true⟩]⟩ := rfl
  rw [hd]
  dsimp only [List.length_cons, List.length_nil]
  clear hd
  have n0 : ((129025 : Int) == 127250) = false := by decide
  have n1 : ((129025 : Int) == 127488) = false := by decide
  have n2 : ((129025 : Int) == 128267) = false := by decide
  have n3 : ((129025 : Int) == 128275) = false := by decide
  go_enter Try.func71, Try.ntmps71
  go_wp2_with (first
    | (refine wpList_alloc_h rfl 117 rfl (.agg #[.int .i64 0, .int .i64 0, .int .i64 0, .slice none 0 0]) (by kernel_rfl) #[.int .i64 0, .int .i64 0, .int .i64 0, .slice none 0 0] rfl ?_; intro w1 R1 e1 g1 b1; have HL1 := Lib.hid (show Lg w w1 [(R1, #[.int .i64 0, .int .i64 0, .int .i64 0, .slice none 0 0], 117)] [] from (Lg.first w).box e1 g1 b1); clear g1 b1 e1))
  refine (l08Signed_any 0 32 _).mono ?_
  rintro e w2 ⟨rfl, h⟩
  have HL2 := Lib.hid (show Lg w w2 [(R1, #[.int .i64 0, .int .i64 0, .int .i64 0, .slice none 0 0], 117)] [] from HL1.out.kept h)
  clear h
  go_wp2_with fail
  refine (l08Signed_any 32 32 _).mono ?_
  rintro e w3 ⟨rfl, h⟩
  have HL3 := Lib.hid (show Lg w w3 [(R1, #[.int .i64 0, .int .i64 0, .int .i64 0, .slice none 0 0], 117)] [] from HL2.out.kept h)
  clear h
  obtain ⟨L, eL⟩ : ∃ x, w3.heap.size = x := ⟨_, rfl⟩
  obtain ⟨U, eU⟩ : ∃ U, w3.alloc (.cells #[.int .i64 0, .int .i64 32, .bool true, .int .i64 32, .int .i64 32, .bool true] 165) = U := ⟨_, rfl⟩
  obtain ⟨H, eH⟩ : ∃ x, U.heap.size = x := ⟨_, rfl⟩
  have hbU : Below w3.heap.size w3 U := by rw [← eU]; exact (Below.refl _ _).alloc (Nat.le_refl _) _
  have hnU : RsNew fdL 3 165 L H U (some ⟨L, 0, none⟩) [⟨0, 32, true⟩, ⟨32, 32, true⟩] := .inr ⟨L, 0, _, rfl, Nat.le_refl _, by rw [← eL, ← eH, ← eU]; simp, by rw [← eL, ← eU]; exact heap_alloc_new _ _, by decide, fun i y hy j v hv => by
      have := flat_at fdL 3 fdL_len [⟨0, 32, true⟩, ⟨32, 32, true⟩] i y hy j v hv
      simpa [fdL] using this⟩
  have qL_R1 : R1 < L := Nat.lt_of_lt_of_eq (HL3.out.lt (.head _)) eL
  have HL4 := Lib.hid (show Lg w U [(R1, #[.int .i64 0, .int .i64 0, .int .i64 0, .slice none 0 0], 117)] [(L, H, fun W => RsNew fdL 3 165 L H W (some ⟨L, 0, none⟩) [⟨0, 32, true⟩, ⟨32, 32, true⟩])] from HL3.out.made eL eH hbU hnU.solid)
  clear hbU hnU
  go_wp2_with (first
    | (rw [eU, eL]; refine wpList_put_at rfl 117 (.tmp 2) (.tmp 47) rfl rfl (R1) 0 rfl (.agg #[.int .i64 129025, .int .i64 8, .int .i64 2, .slice (some ⟨L, 0, none⟩) 2 2]) rfl #[.int .i64 129025, .int .i64 8, .int .i64 2, .slice (some ⟨L, 0, none⟩) 2 2] rfl 117 #[.int .i64 0, .int .i64 0, .int .i64 0, .slice none 0 0] #[.int .i64 129025, .int .i64 8, .int .i64 2, .slice (some ⟨L, 0, none⟩) 2 2] (HL4.out.get (.head _)) (by kernel_rfl) (by kernel_rfl) (by kernel_rfl) (by kernel_rfl) ?_; intro w5 g5 o5; have HL5 := Lib.hid (show Lg w w5 [(R1, #[.int .i64 129025, .int .i64 8, .int .i64 2, .slice (some ⟨L, 0, none⟩) 2 2], 117)] [(L, H, fun W => RsNew fdL 3 165 L H W (some ⟨L, 0, none⟩) [⟨0, 32, true⟩, ⟨32, 32, true⟩])] from HL4.out.put 0 rfl g5 o5 (fun _ h => nomatch h) (List.forall_mem_cons.2 ⟨.inr qL_R1, (fun _ h => nomatch h)⟩) rfl); clear g5 o5)
    | (refine wpList_put_at rfl 117 (.tmp 2) (.tmp 47) rfl rfl (R1) 0 rfl (.agg #[.int .i64 129025, .int .i64 8, .int .i64 2, .slice (some ⟨L, 0, none⟩) 2 2]) rfl #[.int .i64 129025, .int .i64 8, .int .i64 2, .slice (some ⟨L, 0, none⟩) 2 2] rfl 117 #[.int .i64 0, .int .i64 0, .int .i64 0, .slice none 0 0] #[.int .i64 129025, .int .i64 8, .int .i64 2, .slice (some ⟨L, 0, none⟩) 2 2] (HL4.out.get (.head _)) (by kernel_rfl) (by kernel_rfl) (by kernel_rfl) (by kernel_rfl) ?_; intro w5 g5 o5; have HL5 := Lib.hid (show Lg w w5 [(R1, #[.int .i64 129025, .int .i64 8, .int .i64 2, .slice (some ⟨L, 0, none⟩) 2 2], 117)] [(L, H, fun W => RsNew fdL 3 165 L H W (some ⟨L, 0, none⟩) [⟨0, 32, true⟩, ⟨32, 32, true⟩])] from HL4.out.put 0 rfl g5 o5 (fun _ h => nomatch h) (List.forall_mem_cons.2 ⟨.inr qL_R1, (fun _ h => nomatch h)⟩) rfl); clear g5 o5))
  exact bodyPost_ret (results_cell_row (p := 2) (ty := 117) (by kernel_rfl) _ _ (R1) 117 _ (0, 0) _ rfl (HL5.out.get (.head _)) Try.underlying117 rfl (by kernel_rfl)) rfl ⟨_, rfl, ((HL5.out.at (.head _)).wide (HL5.out.lo (.head _)) (HL5.out.hi (.head _)).2), HL5.out.below⟩
set_option maxRecDepth 100000 in
set_option maxHeartbeats 4000000 in
theorem specDefOf_5 (w : World) : Calls Try.prog 71 #[.int .i64 130306] w (DefOut 130306 w) := by
  unfold DefOut
  have hd : defD 130306 = ⟨130306, 8, 2, [⟨0, 8, false⟩, ⟨8, 16, false⟩, ⟨24, 16, false⟩, ⟨40, 3, false⟩]⟩ := rfl
  rw [hd]
  dsimp only [List.length_cons, List.length_nil]
  clear hd
  have n0 : ((130306 : Int) == 127250) = false := by decide
  have n1 : ((130306 : Int) == 127488) = false := by decide
  have n2 : ((130306 : Int) == 128267) = false := by decide
  have n3 : ((130306 : Int) == 128275) = false := by decide
  have n4 : ((130306 : Int) == 129025) = false := by decide
  go_enter Try.func71, Try.ntmps71
  go_wp2_with (first
    | (refine wpList_alloc_h rfl 117 rfl (.agg #[.int .i64 0, .int .i64 0, .int .i64 0, .slice none 0 0]) (by kernel_rfl) #[.int .i64 0, .int .i64 0, .int .i64 0, .slice none 0 0] rfl ?_; intro w1 R1 e1 g1 b1; have HL1 := Lib.hid (show Lg w w1 [(R1, #[.int .i64 0, .int .i64 0, .int .i64 0, .slice none 0 0], 117)] [] from (Lg.first w).box e1 g1 b1); clear g1 b1 e1))
  refine (l08Plain_any 0 8 _).mono ?_
  rintro e w2 ⟨rfl, h⟩
  have HL2 := Lib.hid (show Lg w w2 [(R1, #[.int .i64 0, .int .i64 0, .int .i64 0, .slice none 0 0], 117)] [] from HL1.out.kept h)
  clear h
  go_wp2_with fail
  refine (l08Plain_any 8 16 _).mono ?_
  rintro e w3 ⟨rfl, h⟩
  have HL3 := Lib.hid (show Lg w w3 [(R1, #[.int .i64 0, .int .i64 0, .int .i64 0, .slice none 0 0], 117)] [] from HL2.out.kept h)
  clear h
  go_wp2_with fail
  refine (l08Plain_any 24 16 _).mono ?_
  rintro e w4 ⟨rfl, h⟩
  have HL4 := Lib.hid (show Lg w w4 [(R1, #[.int .i64 0, .int .i64 0, .int .i64 0, .slice none 0 0], 117)] [] from HL3.out.kept h)
  clear h
  go_wp2_with fail
  refine (l08Plain_any 40 3 _).mono ?_
  rintro e w5 ⟨rfl, h⟩
  have HL5 := Lib.hid (show Lg w w5 [(R1, #[.int .i64 0, .int .i64 0, .int .i64 0, .slice none 0 0], 117)] [] from HL4.out.kept h)
  clear h
  obtain ⟨L, eL⟩ : ∃ x, w5.heap.size = x := ⟨_, rfl⟩
  obtain ⟨U, eU⟩ : ∃ U, w5.alloc (.cells #[.int .i64 0, .int .i64 8, .bool false, .int .i64 8, .int .i64 16, .bool false, .int .i64 24, .int .i64 16, .bool false, .int .i64 40, .int .i64 3, .bool false] 165) = U := ⟨_, rfl⟩
  obtain ⟨H, eH⟩ : ∃ x, U.heap.size = x := ⟨_, rfl⟩
  have hbU : Below w5.heap.size w5 U := by rw [← eU]; exact (Below.refl _ _).alloc (Nat.le_refl _) _
  have hnU : RsNew fdL 3 165 L H U (some ⟨L, 0, none⟩) [⟨0, 8, false⟩, ⟨8, 16, false⟩, ⟨24, 16, false⟩, ⟨40, 3, false⟩] := .inr ⟨L, 0, _, rfl, Nat.le_refl _, by rw [← eL, ← eH, ← eU]; simp, by rw [← eL, ← eU]; exact heap_alloc_new _ _, by decide, fun i y hy j v hv => by
      have := flat_at fdL 3 fdL_len [⟨0, 8, false⟩, ⟨8, 16, false⟩, ⟨24, 16, false⟩, ⟨40, 3, false⟩] i y hy j v hv
      simpa [fdL] using this⟩
  have qL_R1 : R1 < L := Nat.lt_of_lt_of_eq (HL5.out.lt (.head _)) eL
  have HL6 := Lib.hid (show Lg w U [(R1, #[.int .i64 0, .int .i64 0, .int .i64 0, .slice none 0 0], 117)] [(L, H, fun W => RsNew fdL 3 165 L H W (some ⟨L, 0, none⟩) [⟨0, 8, false⟩, ⟨8, 16, false⟩, ⟨24, 16, false⟩, ⟨40, 3, false⟩])] from HL5.out.made eL eH hbU hnU.solid)
  clear hbU hnU
  go_wp2_with (first
    | (rw [eU, eL]; refine wpList_put_at rfl 117 (.tmp 2) (.tmp 56) rfl rfl (R1) 0 rfl (.agg #[.int .i64 130306, .int .i64 8, .int .i64 2, .slice (some ⟨L, 0, none⟩) 4 4]) rfl #[.int .i64 130306, .int .i64 8, .int .i64 2, .slice (some ⟨L, 0, none⟩) 4 4] rfl 117 #[.int .i64 0, .int .i64 0, .int .i64 0, .slice none 0 0] #[.int .i64 130306, .int .i64 8, .int .i64 2, .slice (some ⟨L, 0, none⟩) 4 4] (HL6.out.get (.head _)) (by kernel_rfl) (by kernel_rfl) (by kernel_rfl) (by kernel_rfl) ?_; intro w7 g7 o7; have HL7 := Lib.hid (show Lg w w7 [(R1, #[.int .i64 130306, .int .i64 8, .int .i64 2, .slice (some ⟨L, 0, none⟩) 4 4], 117)] [(L, H, fun W => RsNew fdL 3 165 L H W (some ⟨L, 0, none⟩) [⟨0, 8, false⟩, ⟨8, 16, false⟩, ⟨24, 16, false⟩, ⟨40, 3, false⟩])] from HL6.out.put 0 rfl g7 o7 (fun _ h => nomatch h) (List.forall_mem_cons.2 ⟨.inr qL_R1, (fun _ h => nomatch h)⟩) rfl); clear g7 o7)
    | (refine wpList_put_at rfl 117 (.tmp 2) (.tmp 56) rfl rfl (R1) 0 rfl (.agg #[.int .i64 130306, .int .i64 8, .int .i64 2, .slice (some ⟨L, 0, none⟩) 4 4]) rfl #[.int .i64 130306, .int .i64 8, .int .i64 2, .slice (some ⟨L, 0, none⟩) 4 4] rfl 117 #[.int .i64 0, .int .i64 0, .int .i64 0, .slice none 0 0] #[.int .i64 130306, .int .i64 8, .int .i64 2, .slice (some ⟨L, 0, none⟩) 4 4] (HL6.out.get (.head _)) (by kernel_rfl) (by kernel_rfl) (by kernel_rfl) (by kernel_rfl) ?_; intro w7 g7 o7; have HL7 := Lib.hid (show Lg w w7 [(R1, #[.int .i64 130306, .int .i64 8, .int .i64 2, .slice (some ⟨L, 0, none⟩) 4 4], 117)] [(L, H, fun W => RsNew fdL 3 165 L H W (some ⟨L, 0, none⟩) [⟨0, 8, false⟩, ⟨8, 16, false⟩, ⟨24, 16, false⟩, ⟨40, 3, false⟩])] from HL6.out.put 0 rfl g7 o7 (fun _ h => nomatch h) (List.forall_mem_cons.2 ⟨.inr qL_R1, (fun _ h => nomatch h)⟩) rfl); clear g7 o7))
  exact bodyPost_ret (results_cell_row (p := 2) (ty := 117) (by kernel_rfl) _ _ (R1) 117 _ (0, 0) _ rfl (HL7.out.get (.head _)) Try.underlying117 rfl (by kernel_rfl)) rfl ⟨_, rfl, ((HL7.out.at (.head _)).wide (HL7.out.lo (.head _)) (HL7.out.hi (.head _)).2), HL7.out.below⟩
set_option maxRecDepth 100000 in
set_option maxHeartbeats 4000000 in
theorem specDefOf_no (p : Int) (w : World) (h : ixD p = 6) : Calls Try.prog 71 #[.int .i64 p] w (DefOut p w) := by
  unfold DefOut
  have hd : defD p = ⟨0, 0, 0, []⟩ := by unfold defD; rw [h]; rfl
  rw [hd]
  have n0 : (p == 127250) = false := by
    have : p ≠ 127250 := fun e => by rw [e] at h; exact absurd h (by decide)
    simpa using this
  have n1 : (p == 127488) = false := by
    have : p ≠ 127488 := fun e => by rw [e] at h; exact absurd h (by decide)
    simpa using this
  have n2 : (p == 128267) = false := by
    have : p ≠ 128267 := fun e => by rw [e] at h; exact absurd h (by decide)
    simpa using this
  have n3 : (p == 128275) = false := by
    have : p ≠ 128275 := fun e => by rw [e] at h; exact absurd h (by decide)
    simpa using this
  have n4 : (p == 129025) = false := by
    have : p ≠ 129025 := fun e => by rw [e] at h; exact absurd h (by decide)
    simpa using this
  have n5 : (p == 130306) = false := by
    have : p ≠ 130306 := fun e => by rw [e] at h; exact absurd h (by decide)
    simpa using this
  clear hd h
  go_enter Try.func71, Try.ntmps71
  go_wp2
  exact bodyPost_ret (v := .agg #[.int .i64 0, .int .i64 0, .int .i64 0, .slice none 0 0]) (by simp [results, Try.results71, go_sem]) rfl ⟨none, rfl, .inl rfl, (Below.refl _ _).alloc (Nat.le_refl _) _⟩
theorem specDefOf_any (p : Int) (w : World) : Calls Try.prog 71 #[.int .i64 p] w (DefOut p w) := by
  by_cases h0 : p = 127250
  · subst h0; exact specDefOf_0 w
  by_cases h1 : p = 127488
  · subst h1; exact specDefOf_1 w
  by_cases h2 : p = 128267
  · subst h2; exact specDefOf_2 w
  by_cases h3 : p = 128275
  · subst h3; exact specDefOf_3 w
  by_cases h4 : p = 129025
  · subst h4; exact specDefOf_4 w
  by_cases h5 : p = 130306
  · subst h5; exact specDefOf_5 w
  exact specDefOf_no p w (by unfold ixD; rw [if_neg h0, if_neg h1, if_neg h2, if_neg h3, if_neg h4, if_neg h5])
end Go.Proofs.Ytpolpkheaibonaa
/- Rows of Heards: their size, a copy, alike, marked, read again by the laws' own functions. Nothing that was there is written, but what is marked. -/
namespace Go.Proofs.Ytpolpkheaibonaa
open Go.RowKit
set_option linter.unusedVariables false

/-- One of them. -/
structure Hd where
  s : Int
  n : Int
  g : Int
/-- Its cells. -/
def hdL (x : Hd) : List Value := [.int .i64 x.s, .int .i64 x.n, .int .i64 x.g]
theorem hdL_len (x : Hd) : (hdL x).length = 3 := rfl
theorem hdL_one (x : Hd) : ∀ u ∈ hdL x, u.oneCell' = true := by
  intro u hu
  simp [hdL] at hu
  rcases hu with rfl | rfl | rfl <;> rfl
def hdAt (l : List Hd) (i : Nat) : Hd := l[i]?.getD ⟨0, 0, 0⟩
theorem hdAt_some {l : List Hd} {i : Nat} (h : i < l.length) : l[i]? = some (hdAt l i) := by
  unfold hdAt
  rw [List.getElem?_eq_getElem h]
  rfl
/-- The marks from q on. -/
def markHd (q : Nat) : Hd := ⟨((q : Nat) : Int), ((q + 1 : Nat) : Int), ((q + 2 : Nat) : Int)⟩
/-- m of them from k on. -/
def marksHd (k m : Nat) : List Hd := (List.range m).map fun i => markHd (k + 3 * i)
theorem marksHd_length (k m : Nat) : (marksHd k m).length = m := by simp [marksHd]
theorem marksHd_at {k m i : Nat} {x : Hd} (h : (marksHd k m)[i]? = some x) : i < m ∧ x = markHd (k + 3 * i) := by
  unfold marksHd at h
  rw [List.getElem?_map] at h
  obtain ⟨j, hj, rfl⟩ := Option.map_eq_some_iff.1 h
  obtain ⟨hi, rfl⟩ := List.getElem?_eq_some_iff.1 hj
  have hi' : i < m := by simpa using hi
  simp [hi']
theorem marksHd_get {k m i : Nat} (h : i < m) : (marksHd k m)[i]? = some (markHd (k + 3 * i)) := by
  unfold marksHd
  rw [List.getElem?_map, List.getElem?_range h]
  rfl
end Go.Proofs.Ytpolpkheaibonaa
/- Pickers: whether one is right, what is heard of one more, whom one believes. -/
namespace Go.Proofs.Ytpolpkheaibonaa
open Go.RowKit
set_option linter.unusedVariables false

/-- It holds of all numbers below n. -/
def allR (f : Nat → Bool) (n : Nat) : Bool := (List.range n).all f
theorem allR_yes {f : Nat → Bool} {n : Nat} (h : ∀ i, i < n → f i = true) : allR f n = true := by
  unfold allR
  rw [List.all_eq_true]
  intro i hi
  exact h i (by simpa using hi)
theorem allR_of {f : Nat → Bool} {n : Nat} (h : allR f n = true) : ∀ i, i < n → f i = true := by
  unfold allR at h
  rw [List.all_eq_true] at h
  intro i hi
  exact h i (by simpa using hi)
theorem allR_no {f : Nat → Bool} {n i : Nat} (hi : i < n) (h : f i = false) : allR f n = false := by
  cases hq : allR f n with
  | false => rfl
  | true => rw [allR_of hq i hi] at h; cases h

/-- One of Ranks: an address, none ahead of it alike. -/
def rankAt (r : List Int) (i : Nat) : Bool := inB 0 251 (numAt r i) && !(decide (numAt r i ∈ r.take i))
def ranksB (r : List Int) : Bool := decide (r.length ≤ 5) && allR (rankAt r) r.length
/-- One of Heard. -/
def heardAt (r : List Int) (h : List Hd) (i : Nat) : Bool :=
  decide ((hdAt h i).s ∈ r) && (inB (-2147483648) 2147483647 (hdAt h i).n && (inB 0 1000000 (hdAt h i).g && (decide (i = 0) || decide ((hdAt h (i - 1)).s < (hdAt h i).s))))
def heardB (r : List Int) (h : List Hd) : Bool := allR (heardAt r h) h.length
/-- The Picker is right. -/
def pkB (r : List Int) (h : List Hd) : Bool := ranksB r && heardB r h
theorem pkB_of {r : List Int} {h : List Hd} (k : pkB r h = true) : r.length ≤ 5 ∧ (∀ i, i < r.length → rankAt r i = true) ∧ (∀ i, i < h.length → heardAt r h i = true) := by
  unfold pkB ranksB heardB at k
  simp only [Bool.and_eq_true, decide_eq_true_eq] at k
  exact ⟨k.1.1, allR_of k.1.2, allR_of k.2⟩
theorem heardAt_of {r : List Int} {h : List Hd} {i : Nat} (k : heardAt r h i = true) : (hdAt h i).s ∈ r ∧ (-2147483648 ≤ (hdAt h i).n ∧ (hdAt h i).n ≤ 2147483647) ∧ (0 ≤ (hdAt h i).g ∧ (hdAt h i).g ≤ 1000000) ∧ (i = 0 ∨ (hdAt h (i - 1)).s < (hdAt h i).s) := by
  unfold heardAt inB at k
  simp only [Bool.and_eq_true, Bool.or_eq_true, decide_eq_true_eq] at k
  exact ⟨k.1, ⟨by omega, by omega⟩, ⟨by omega, by omega⟩, k.2.2.2⟩
theorem heard_lt {r : List Int} {h : List Hd} {n : Nat} (k : ∀ i, i < n → heardAt r h i = true) : ∀ j, j < n → ∀ i, i < j → (hdAt h i).s < (hdAt h j).s := by
  intro j
  induction j with
  | zero => intro _ i hi; omega
  | succ j ih =>
    intro hj i hi
    have h1 := (heardAt_of (k (j + 1) hj)).2.2.2
    have h2 : (hdAt h j).s < (hdAt h (j + 1)).s := by
      rcases h1 with h1 | h1
      · omega
      · exact h1
    rcases Nat.eq_or_lt_of_le (Nat.le_of_lt_succ hi) with rfl | hlt
    · exact h2
    · exact Int.lt_trans (ih (by omega) i hlt) h2
theorem sub_len : ∀ (l r : List Int), l.Nodup → (∀ x ∈ l, x ∈ r) → l.length ≤ r.length
  | [], _, _, _ => by simp
  | x :: l, r, h, hs => by
    have hx := hs x (by simp)
    have h1 := sub_len l (r.erase x) (List.nodup_cons.1 h).2 (fun y hy => (List.mem_erase_of_ne (by rintro rfl; exact (List.nodup_cons.1 h).1 hy)).2 (hs y (by simp [hy])))
    rw [List.length_erase_of_mem hx] at h1
    have h2 : 0 < r.length := List.length_pos_of_mem hx
    simp only [List.length_cons]
    omega
/-- The places that it is heard of. -/
def hdS (h : List Hd) : List Int := h.map (·.s)
theorem hdS_length (h : List Hd) : (hdS h).length = h.length := by simp [hdS]
theorem hdS_at {h : List Hd} {i : Nat} (hi : i < h.length) : (hdS h)[i]? = some (hdAt h i).s := by
  unfold hdS
  rw [List.getElem?_map, hdAt_some hi]
  rfl
theorem heard_len {r : List Int} {h : List Hd} (k : ∀ i, i < h.length → heardAt r h i = true) : h.length ≤ r.length := by
  rw [← hdS_length]
  refine sub_len _ _ ?_ ?_
  · unfold List.Nodup
    rw [List.pairwise_iff_getElem]
    intro i j hi hj hij
    have hi' : i < h.length := by rwa [hdS_length] at hi
    have hj' : j < h.length := by rwa [hdS_length] at hj
    have h1 := hdS_at hi'
    have h2 := hdS_at hj'
    rw [List.getElem?_eq_getElem hi] at h1
    rw [List.getElem?_eq_getElem hj] at h2
    rw [Option.some.inj h1, Option.some.inj h2]
    exact Int.ne_of_lt (heard_lt k j hj' i hij)
  · intro x hx
    unfold hdS at hx
    obtain ⟨y, hy, rfl⟩ := List.mem_map.1 hx
    obtain ⟨i, hi⟩ := List.getElem?_of_mem hy
    have hl := (List.getElem?_eq_some_iff.1 hi).1
    rw [hdAt_some hl] at hi
    rw [← Option.some.inj hi]
    exact (heardAt_of (k i hl)).1
theorem pkB_len {r : List Int} {h : List Hd} (k : pkB r h = true) : h.length ≤ 5 :=
  Nat.le_trans (heard_len (pkB_of k).2.2) (pkB_of k).1
theorem pkB_long {r : List Int} {h : List Hd} (k : 5 < h.length) : pkB r h = false := by
  cases hq : pkB r h with
  | false => rfl
  | true => have := pkB_len hq; omega
theorem pkB_ranks {r : List Int} {h : List Hd} (k : 5 < r.length) : pkB r h = false := by
  cases hq : pkB r h with
  | false => rfl
  | true => have := (pkB_of hq).1; omega
theorem pkB_rank {r : List Int} {h : List Hd} {i : Nat} (hi : i < r.length) (k : rankAt r i = false) : pkB r h = false := by
  cases hq : pkB r h with
  | false => rfl
  | true => rw [(pkB_of hq).2.1 i hi] at k; cases k
theorem pkB_heard {r : List Int} {h : List Hd} {i : Nat} (hi : i < h.length) (k : heardAt r h i = false) : pkB r h = false := by
  cases hq : pkB r h with
  | false => rfl
  | true => rw [(pkB_of hq).2.2 i hi] at k; cases k
theorem ranksB_yes {r : List Int} (h5 : r.length ≤ 5) (h1 : ∀ i, i < r.length → rankAt r i = true) : ranksB r = true := by
  unfold ranksB
  rw [allR_yes h1, decide_eq_true h5]
  rfl
theorem ranksB_no {r : List Int} {i : Nat} (hi : i < r.length) (k : rankAt r i = false) : ranksB r = false := by
  unfold ranksB
  rw [allR_no hi k, Bool.and_false]
theorem ranksB_long {r : List Int} (k : 5 < r.length) : ranksB r = false := by
  unfold ranksB
  rw [decide_eq_false (by omega), Bool.false_and]
theorem pkB_yes {r : List Int} {h : List Hd} (h5 : r.length ≤ 5) (h1 : ∀ i, i < r.length → rankAt r i = true) (h2 : ∀ i, i < h.length → heardAt r h i = true) : pkB r h = true := by
  unfold pkB heardB
  rw [ranksB_yes h5 h1, allR_yes h2]
  rfl
/-- Where one is heard of. -/
def putH (h : List Hd) (s n : Int) : List Hd :=
  h.take (cntI (hdS h) s) ++ ⟨s, n, 0⟩ :: h.drop (if (hdS h)[cntI (hdS h) s]? = some s then cntI (hdS h) s + 1 else cntI (hdS h) s)
def mayB (r : List Int) (h : List Hd) (s n : Int) : Bool := pkB r h && (decide (s ∈ r) && inB (-2147483648) 2147483647 n)
def hearH (r : List Int) (h : List Hd) (s n : Int) : List Hd := if mayB r h s n = true then putH h s n else h
def tickH (h : List Hd) : List Hd := h.map fun x => ⟨x.s, x.n, if x.g + 1 < 1000000 then x.g + 1 else 1000000⟩
theorem tickH_length (h : List Hd) : (tickH h).length = h.length := by simp [tickH]
/-- Whom one believes. -/
def pickL (h : List Hd) (w : Int) : List Int → Int × Int × Int
  | [] => (0, 0, 6)
  | s :: r => match h.find? (fun x => x.s == s && decide (x.g ≤ w)) with
    | some x => (x.s, x.n, 0)
    | none => pickL h w r
def pickV (r : List Int) (h : List Hd) (w : Int) : Int × Int × Int := if (pkB r h && inB 0 1000000 w) = true then pickL h w r else (0, 0, 1)
/-- Where the look for s ends among what is heard. -/
theorem cntS_of {r : List Int} {h : List Hd} {s : Int} (k : ∀ i, i < h.length → heardAt r h i = true) {i : Nat} (hi : i ≤ h.length) (hb : ∀ t, t < i → (hdAt h t).s < s) (ha : i < h.length → s ≤ (hdAt h i).s) : i = cntI (hdS h) s := by
  refine cntI_of (by rw [hdS_length]; exact hi) (fun j y hj hy => ?_) (fun y hy => ?_)
  · rw [hdS_at (by omega)] at hy
    rw [← Option.some.inj hy]
    exact hb j hj
  · have hl := (List.getElem?_eq_some_iff.1 hy).1
    rw [hdS_length] at hl
    rw [hdS_at hl] at hy
    rw [← Option.some.inj hy]
    have := ha hl
    omega
end Go.Proofs.Ytpolpkheaibonaa
/- A region that draws its order, by what is known of each operation's value and of the world, whatever order comes: for operations without a guard, each with a place of its own for its value. -/
namespace Go.Proofs.Ytpolpkheaibonaa
open Go.RowKit
set_option linter.unusedVariables false

section
variable {P : Program} {ops : Array Oper} {Q : Exit → Act → World → Prop}
theorem count_set (l : List Bool) : ∀ i, l[i]? = some false → (l.set i true).count false + 1 = l.count false := by
  induction l with
  | nil => intro i h; simp at h
  | cons b r ih =>
    intro i h
    rcases i with _ | i
    · simp at h
      subst h
      simp
    · have := ih i (by simpa using h)
      cases b <;> simp <;> omega
theorem wpAny_of_inv {Inv : Array Bool → Act → World → Prop}
    (hstep : ∀ listed a w i, Inv listed a w → i ∈ Region.ready .any ops listed → wpOp P ops Q i (fun a' w' => Inv (listed.setIfInBounds i true) a' w') a w)
    (hend : ∀ listed a w, Inv listed a w → Region.ready .any ops listed = [] → Q .normal a w) :
    ∀ (fuel : Nat) (listed : Array Bool) (a : Act) (w : World), Inv listed a w → listed.toList.count false ≤ fuel → wpAny P .any ops Q fuel listed a w := by
  have hready : ∀ (listed : Array Bool) i, i ∈ Region.ready .any ops listed → listed.toList[i]? = some false := by
    intro listed i hi
    have h := (mem_ready.1 hi).1
    rw [Array.getElem?_toList]
    rcases Nat.lt_or_ge i listed.size with h1 | h1
    · rw [Array.getElem?_eq_getElem h1]
      simp [h1] at h
      rw [h]
    · simp [Array.getElem?_eq_none h1] at h
  intro fuel
  induction fuel with
  | zero =>
    intro listed a w h hc
    have h0 : Region.ready .any ops listed = [] := by
      apply List.eq_nil_iff_forall_not_mem.2
      intro i hi
      have := hready listed i hi
      have h2 := List.count_eq_zero.1 (Nat.le_zero.1 hc)
      exact h2 (List.mem_of_getElem? this)
    exact ⟨h0, hend listed a w h h0⟩
  | succ fuel ih =>
    intro listed a w h hc
    refine ⟨fun h0 => hend listed a w h h0, fun i hi => ?_⟩
    refine wpOp_mono (fun a' w' h' => ih _ a' w' h' ?_) (hstep listed a w i h hi)
    have := count_set listed.toList i (hready listed i hi)
    rw [Array.toList_setIfInBounds]
    omega

/-- The frame with the values of those operations that have come up. -/
def fillL (vs : Nat → Value) (on : Nat → Bool) : List Oper → Nat → Act → Act
  | [], _, a => a
  | o :: r, k, a => fillL vs on r (k + 1) (if on k = true then a.put o.dst (vs k) else a)
/-- No two have one place, and this place is none of them. -/
def freeOf (d : Option Tmp) : List Oper → Bool
  | [] => true
  | o :: r => (match d, o.dst with | some x, some y => x != y | _, _ => true) && freeOf d r
def apartAll : List Oper → Bool
  | [] => true
  | o :: r => freeOf o.dst r && apartAll r
theorem freeOf_cons {d : Option Tmp} {o : Oper} {r : List Oper} (h : freeOf d (o :: r) = true) : (∀ x, d = some x → o.dst ≠ some x) ∧ freeOf d r = true := by
  simp only [freeOf, Bool.and_eq_true] at h
  refine ⟨fun x hx ho => ?_, h.2⟩
  subst hx
  rw [ho] at h
  simp at h
theorem fillL_put (vs : Nat → Value) (on : Nat → Bool) (d : Option Tmp) (v : Value) : ∀ (l : List Oper) (k : Nat) (a : Act), freeOf d l = true → fillL vs on l k (a.put d v) = (fillL vs on l k a).put d v := by
  intro l
  induction l with
  | nil => intro k a h; rfl
  | cons o r ih =>
    intro k a h
    obtain ⟨h1, h2⟩ := freeOf_cons h
    show fillL vs on r (k + 1) (if on k = true then (a.put d v).put o.dst (vs k) else a.put d v) = (fillL vs on r (k + 1) (if on k = true then a.put o.dst (vs k) else a)).put d v
    split
    · rw [Act.put_comm a v (vs k) h1, ih _ _ h2]
    · rw [ih _ _ h2]
theorem fillL_congr {vs vs' : Nat → Value} {on on' : Nat → Bool} : ∀ (l : List Oper) (k : Nat) (a : Act), (∀ j, k ≤ j → on j = on' j ∧ (on j = true → vs j = vs' j)) → fillL vs on l k a = fillL vs' on' l k a := by
  intro l
  induction l with
  | nil => intro k a h; rfl
  | cons o r ih =>
    intro k a h
    show fillL vs on r (k + 1) (if on k = true then a.put o.dst (vs k) else a) = fillL vs' on' r (k + 1) (if on' k = true then a.put o.dst (vs' k) else a)
    obtain ⟨h1, h2⟩ := h k (Nat.le_refl _)
    rw [ih (k + 1) _ (fun j hj => h j (by omega)), ← h1]
    split
    · rename_i hk; rw [h2 hk]
    · rfl
def upd {α : Type} (f : Nat → α) (i : Nat) (x : α) (j : Nat) : α := if j = i then x else f j
theorem fillL_step (vs : Nat → Value) (on : Nat → Bool) (v : Value) : ∀ (l : List Oper) (k i : Nat) (o : Oper) (a : Act), apartAll l = true → l[i]? = some o → on (k + i) = false →
    fillL (upd vs (k + i) v) (upd on (k + i) true) l k a = (fillL vs on l k a).put o.dst v := by
  intro l
  induction l with
  | nil => intro k i o a _ h; simp at h
  | cons o' r ih =>
    intro k i o a hap h hon
    simp only [apartAll, Bool.and_eq_true] at hap
    rcases i with _ | i
    · simp at h
      subst h
      show fillL (upd vs (k + 0) v) (upd on (k + 0) true) r (k + 1) (if upd on (k + 0) true k = true then a.put o'.dst (upd vs (k + 0) v k) else a) = (fillL vs on r (k + 1) (if on k = true then a.put o'.dst (vs k) else a)).put o'.dst v
      have e1 : upd on (k + 0) true k = true := by simp [upd]
      have e2 : upd vs (k + 0) v k = v := by simp [upd]
      have e3 : on k = false := hon
      rw [if_pos e1, e2, e3, if_neg (by simp), ← fillL_put vs on o'.dst v r (k + 1) a hap.1]
      refine fillL_congr r (k + 1) _ fun j hj => ?_
      have hne : j ≠ k + 0 := by omega
      unfold upd
      rw [if_neg hne, if_neg hne]
      exact ⟨rfl, fun _ => rfl⟩
    · show fillL (upd vs (k + (i + 1)) v) (upd on (k + (i + 1)) true) r (k + 1) (if upd on (k + (i + 1)) true k = true then a.put o'.dst (upd vs (k + (i + 1)) v k) else a) = (fillL vs on r (k + 1) (if on k = true then a.put o'.dst (vs k) else a)).put o.dst v
      have e1 : upd on (k + (i + 1)) true k = on k := by unfold upd; rw [if_neg (by omega)]
      have e2 : upd vs (k + (i + 1)) v k = vs k := by unfold upd; rw [if_neg (by omega)]
      rw [e1, e2, show k + (i + 1) = k + 1 + i by omega]
      exact ih (k + 1) i o _ hap.2 (by simpa using h) (by rw [show k + 1 + i = k + (i + 1) by omega]; exact hon)
theorem eval_put_other {a : Act} {d : Option Tmp} {v : Value} {s : Nat} (h : d ≠ some s) : (a.put d v).eval (.tmp s) = a.eval (.tmp s) := by
  cases d with
  | none => rfl
  | some x =>
    have hx : x ≠ s := fun e => h (by rw [e])
    show (a.tmps.setIfInBounds x v).getD s undef = a.tmps.getD s undef
    simp [Array.getD_eq_getD_getElem?, hx]
theorem eval_put_same {a : Act} {v : Value} {s : Nat} (h : s < a.tmps.size) : (a.put (some s) v).eval (.tmp s) = v := by
  show (a.tmps.setIfInBounds s v).getD s undef = v
  simp [Array.getD_eq_getD_getElem?, h]
theorem size_put (a : Act) (d : Option Tmp) (v : Value) : (a.put d v).tmps.size = a.tmps.size := by
  cases d with
  | none => rfl
  | some x => simp [Act.put]
theorem fillL_other (vs : Nat → Value) (on : Nat → Bool) (s : Nat) : ∀ (l : List Oper) (k : Nat) (a : Act), freeOf (some s) l = true → (fillL vs on l k a).eval (.tmp s) = a.eval (.tmp s) := by
  intro l
  induction l with
  | nil => intro k a h; rfl
  | cons o r ih =>
    intro k a h
    obtain ⟨h1, h2⟩ := freeOf_cons h
    show (fillL vs on r (k + 1) (if on k = true then a.put o.dst (vs k) else a)).eval (.tmp s) = _
    rw [ih _ _ h2]
    split
    · exact eval_put_other (h1 s rfl)
    · rfl
theorem fillL_at (vs : Nat → Value) (on : Nat → Bool) (s : Nat) : ∀ (l : List Oper) (k i : Nat) (o : Oper) (a : Act), apartAll l = true → l[i]? = some o → o.dst = some s → on (k + i) = true → s < a.tmps.size → (fillL vs on l k a).eval (.tmp s) = vs (k + i) := by
  intro l
  induction l with
  | nil => intro k i o a _ h; simp at h
  | cons o' r ih =>
    intro k i o a hap h hd hon hs
    simp only [apartAll, Bool.and_eq_true] at hap
    rcases i with _ | i
    · simp at h
      subst h
      show (fillL vs on r (k + 1) (if on k = true then a.put o'.dst (vs k) else a)).eval (.tmp s) = _
      have e3 : on k = true := hon
      rw [if_pos e3, fillL_other vs on s r (k + 1) _ (by rw [← hd]; exact hap.1), hd]
      exact eval_put_same hs
    · show (fillL vs on r (k + 1) (if on k = true then a.put o'.dst (vs k) else a)).eval (.tmp s) = _
      rw [show k + (i + 1) = k + 1 + i by omega]
      refine ih (k + 1) i o _ hap.2 (by simpa using h) hd (by rw [show k + 1 + i = k + (i + 1) by omega]; exact hon) ?_
      split
      · rw [size_put]; exact hs
      · exact hs

/-- What an operation may take as known: what stood in the frame where no operation of the region writes, and of those that it waits for that their values are as they are to be. -/
structure Known (ops : Array Oper) (T : Nat → World → Value → Prop) (a0 : Act) (o : Oper) (a : Act) (w : World) : Prop where
  old : ∀ s, freeOf (some s) ops.toList = true → a.eval (.tmp s) = a0.eval (.tmp s)
  dep : ∀ e ∈ o.after, Region.binds .any e = true → ∀ oj s, ops[e.on]? = some oj → oj.dst = some s → s < a0.tmps.size → T e.on w (a.eval (.tmp s))
/-- One operation's part. -/
def Ob (P : Program) (ops : Array Oper) (Q : Exit → Act → World → Prop) (C : World → Prop) (R : World → World → Prop) (T : Nat → World → Value → Prop) (a0 : Act) (i : Nat) (o : Oper) : Prop :=
  o.guard = none ∧ ∀ a w, C w → Known ops T a0 o a w → o.wp P a w (fun a' w' => ∃ v, a' = a.put o.dst v ∧ C w' ∧ R w w' ∧ T i w' v) Q
def ObAll (P : Program) (ops : Array Oper) (Q : Exit → Act → World → Prop) (C : World → Prop) (R : World → World → Prop) (T : Nat → World → Value → Prop) (a0 : Act) : List Oper → Nat → Prop
  | [], _ => True
  | o :: r, k => Ob P ops Q C R T a0 k o ∧ ObAll P ops Q C R T a0 r (k + 1)
theorem ObAll.get {C : World → Prop} {R : World → World → Prop} {T : Nat → World → Value → Prop} {a0 : Act} : ∀ (l : List Oper) (k i : Nat) (o : Oper), ObAll P ops Q C R T a0 l k → l[i]? = some o → Ob P ops Q C R T a0 (k + i) o := by
  intro l
  induction l with
  | nil => intro k i o _ h; simp at h
  | cons o' r ih =>
    intro k i o hall h
    rcases i with _ | i
    · simp at h; subst h; exact hall.1
    · rw [show k + (i + 1) = k + 1 + i by omega]
      exact ih (k + 1) i o hall.2 (by simpa using h)
/-- Each waits for earlier ones alone. -/
def backB : List Oper → Nat → Bool
  | [], _ => true
  | o :: r, k => o.after.all (fun e => !Region.binds .any e || decide (e.on < k)) && backB r (k + 1)
theorem backB_get : ∀ (l : List Oper) (k i : Nat) (o : Oper), backB l k = true → l[i]? = some o → ∀ e ∈ o.after, Region.binds .any e = true → e.on < k + i := by
  intro l
  induction l with
  | nil => intro k i o _ h; simp at h
  | cons o' r ih =>
    intro k i o hall h e he hb
    simp only [backB, Bool.and_eq_true] at hall
    rcases i with _ | i
    · simp at h
      subst h
      have := (Array.all_eq_true_iff_forall_mem.1 hall.1) e he
      simpa [hb] using this
    · have := ih (k + 1) i o hall.2 (by simpa using h) e he hb
      omega
theorem fillL_all (vs : Nat → Value) (on : Nat → Bool) : ∀ (l : List Oper) (k : Nat) (a : Act), (∀ j, k ≤ j → j < k + l.length → on j = true) → fillL vs on l k a = fillL vs (fun _ => true) l k a := by
  intro l
  induction l with
  | nil => intro k a h; rfl
  | cons o r ih =>
    intro k a h
    show fillL vs on r (k + 1) (if on k = true then a.put o.dst (vs k) else a) = fillL vs (fun _ => true) r (k + 1) (if true = true then a.put o.dst (vs k) else a)
    rw [if_pos (h k (Nat.le_refl _) (by simp)), if_pos rfl, ih (k + 1) _ (fun j h1 h2 => h j (by omega) (by simp at *; omega))]
theorem wp_region_anyord {id : Nat} {a0 : Act} {w : World} (C : World → Prop) (R : World → World → Prop) (T : Nat → World → Value → Prop) (hm : P.follows .mixedOrders = true)
    (hap : apartAll ops.toList = true) (hbk : backB ops.toList 0 = true)
    (hst : ∀ j w w' v, R w w' → T j w v → T j w' v) (hC : C { w with drawn := w.drawn + 1 })
    (hob : ObAll P ops Q C R T a0 ops.toList 0)
    (hQ : ∀ vs w', C w' → (∀ i, i < ops.size → T i w' (vs i)) → Q .normal (fillL vs (fun _ => true) ops.toList 0 a0) w') : (Code.region id ops true).wp P Q a0 w := by
  refine wp_region_any hm (wpAny_of_inv (Inv := fun listed a w => listed.size = ops.size ∧ C w ∧ ∃ vs, a = fillL vs (fun j => listed.getD j false) ops.toList 0 a0 ∧ ∀ i, listed.getD i false = true → T i w (vs i)) ?_ ?_ _ _ _ _ ⟨by simp, hC, fun _ => undef, ?_, ?_⟩ ?_)
  · intro listed a w i ⟨hsz, hCw, vs, ha, hT⟩ hi
    obtain ⟨hun, o, ho, hdeps⟩ := mem_ready.1 hi
    have hil : i < ops.size := (Array.getElem?_eq_some_iff.1 ho).1
    have hol : ops.toList[i]? = some o := by rw [Array.getElem?_toList]; exact ho
    have hunf : listed.getD i false = false := by
      have h1 : i < listed.size := by omega
      simp [h1] at hun ⊢
      exact hun
    have hObi := hob.get ops.toList 0 i o hol
    rw [Nat.zero_add] at hObi
    obtain ⟨hg, hwp⟩ := hObi
    have hK : Known ops T a0 o a w := by
      refine ⟨fun s hs => by rw [ha]; exact fillL_other vs _ s _ 0 a0 hs, fun e he hbe oj s hoj hd hs => ?_⟩
      have hl := hdeps e he hbe
      have := fillL_at vs (fun j => listed.getD j false) s ops.toList 0 e.on oj a0 hap (by rw [Array.getElem?_toList]; exact hoj) hd (by rw [Nat.zero_add]; exact hl) hs
      rw [Nat.zero_add] at this
      rw [ha, this]
      exact hT e.on hl
    unfold wpOp
    rw [ho]
    have hw : Region.wanted o (yielded ops a.tmps) = true := by simp [Region.wanted, hg]
    simp only [hw, if_true]
    refine .inl (Oper.wp_mono (fun a' w' ⟨v, ha', hC', hR, hTv⟩ => ?_) (hwp a w hCw hK))
    refine ⟨by simpa using hsz, hC', upd vs i v, ?_, fun j hj => ?_⟩
    · have hs := fillL_step vs (fun j => listed.getD j false) v ops.toList 0 i o a0 hap hol (by rw [Nat.zero_add]; exact hunf)
      rw [Nat.zero_add] at hs
      rw [ha', ha, ← hs]
      refine fillL_congr _ 0 _ fun j _ => ⟨?_, fun _ => rfl⟩
      unfold upd
      by_cases hj : j = i
      · subst hj
        have h1 : j < listed.size := by omega
        simp [h1]
      · rw [if_neg hj]
        simp [Array.getD_eq_getD_getElem?, Ne.symm hj]
    · by_cases hji : j = i
      · subst hji; simpa [upd] using hTv
      · have h2 : listed.getD j false = true := by
          simpa [Array.getD_eq_getD_getElem?, Array.getElem?_setIfInBounds, Ne.symm hji] using hj
        have := hst j w w' _ hR (hT j h2)
        simpa [upd, hji] using this
  · intro listed a w ⟨hsz, hCw, vs, ha, hT⟩ h0
    have hall : ∀ n j, j < n → j < ops.size → listed.getD j false = true := by
      intro n
      induction n with
      | zero => intro j h; omega
      | succ n ih =>
        intro j hj hjs
        rcases Nat.lt_or_ge j n with h1 | h1
        · exact ih j h1 hjs
        obtain rfl : j = n := by omega
        cases hl : listed.getD j false with
        | true => rfl
        | false =>
          exfalso
          have hmem : j ∈ Region.ready .any ops listed := by
            refine mem_ready.2 ⟨?_, ops[j], Array.getElem?_eq_getElem hjs, fun e he hbe => ?_⟩
            · have h1 : j < listed.size := by omega
              simp [h1] at hl ⊢
              exact hl
            · have := backB_get ops.toList 0 j ops[j] hbk (by rw [Array.getElem?_toList]; exact Array.getElem?_eq_getElem hjs) e he hbe
              exact ih e.on (by omega) (by omega)
          rw [h0] at hmem
          cases hmem
    rw [ha, fillL_all vs _ ops.toList 0 a0 (fun j _ h => hall ops.size j (by simpa using h) (by simpa using h))]
    exact hQ vs w hCw fun i hi => hT i (hall ops.size i hi hi)
  · symm
    have : ∀ (l : List Oper) k, fillL (fun _ => undef) (fun j => (Array.replicate ops.size false).getD j false) l k a0 = a0 := by
      intro l
      induction l with
      | nil => intro k; rfl
      | cons o r ih =>
        intro k
        show fillL _ _ r (k + 1) (if (Array.replicate ops.size false).getD k false = true then _ else a0) = a0
        rw [if_neg (by simp [Array.getD_eq_getD_getElem?, Array.getElem?_replicate]; split <;> simp)]
        exact ih (k + 1)
    exact this _ _
  · intro i hi
    exfalso
    simp [Array.getD_eq_getD_getElem?, Array.getElem?_replicate] at hi
    split at hi <;> simp at hi
  · have : (Array.replicate ops.size false).toList.count false = ops.size := by simp
    omega
end
end Go.Proofs.Ytpolpkheaibonaa
/- What an operation of a region in any order is to show: a value, a store, a call; rows of numbers that are laid down and picked from. -/
namespace Go.Proofs.Ytpolpkheaibonaa
open Go.RowKit
set_option linter.unusedVariables false

section
variable {P : Program} {o : Oper} {a : Act} {w : World} {K : Act → World → Prop} {Q : Exit → Act → World → Prop}
theorem ob_value {v : Value} {w' : World} (h : (execOp a.eval o).run P w = .ok (.value v) w') (hk : K (a.put o.dst v) w') : o.wp P a w K Q := by
  unfold Oper.wp
  rw [h]
  exact hk
theorem ob_skip {w' : World} (h : (execOp a.eval o).run P w = .ok .skip w') (hk : K (a.put o.dst undef) w') : o.wp P a w K Q := by
  unfold Oper.wp
  rw [h]
  exact hk
theorem ob_move {x : Operand} (ho : o.op = .move x) (hk : K (a.put o.dst (a.eval x)) w) : o.wp P a w K Q := ob_value (BigFrame.run_move x ho w) hk
theorem ob_call {f : FuncId} {fn : Func} {xs : Array Operand} {ats : Array TypeId} {vals : Array Value} (ho : o.op = .call { callee := .value (.func f), args := xs, argTypes := ats })
    (hf : P.funcs[f]? = some fn) (hn : (fn.name == "runtime.NumGoroutine") = false) (hb : fn.body.isNone = false) (hv : xs.map a.eval = vals)
    (h : Calls P f vals w fun e w' => ∃ v, e = .returned v ∧ K (a.put o.dst v) w') : o.wp P a w K Q := by
  obtain ⟨dst, op, type, pos, after, guard⟩ := o
  simp only at ho
  subst ho
  unfold Oper.wp
  have hrun : (execOp a.eval { dst, op := .call { callee := .value (.func f), args := xs, argTypes := ats }, type := type, pos, after, guard }).run P w = .ok (.enter f vals) w := by
    rw [execOp_call_go, hv]
    have hn' : ¬ fn.name = "runtime.NumGoroutine" := by simpa using hn
    have hb' : ¬ fn.body = none := by
      intro q
      rw [q] at hb
      simp at hb
    unfold callFunc
    simp [hf, hn', hb']
  rw [hrun]
  exact h.mono fun e w' ⟨v, he, hk⟩ => by subst he; exact hk
end

/-- A number of some bounds, as a value. -/
def IsI (v : Value) : Prop := ∃ x : Int, v = .int .i64 x ∧ -9000000000 ≤ x ∧ x ≤ 9000000000
/-- A row of n numbers that lies elsewhere than block S. -/
def LitAt (T : TypeId) (S n : Nat) (lo hi : Int) (w : World) (v : Value) : Prop :=
  ∃ G row, v = .slice (some ⟨G, 0, none⟩) n n ∧ G ≠ S ∧ G < w.heap.size ∧ w.heap[G]? = some (.cells row T (0, 0)) ∧ ∀ k, k < n → ∃ x : Int, row[k]? = some (.int .i64 x) ∧ lo ≤ x ∧ x ≤ hi
/-- The address of one of its numbers. -/
def PickAt (T : TypeId) (S : Nat) (lo hi : Int) (w : World) (v : Value) : Prop :=
  ∃ G k row x, v = .pointer (some ⟨G, k, none⟩) ∧ G ≠ S ∧ G < w.heap.size ∧ w.heap[G]? = some (.cells row T (0, 0)) ∧ row[k]? = some (.int .i64 x) ∧ lo ≤ x ∧ x ≤ hi
theorem LitAt.pick {T : TypeId} {S n : Nat} {lo hi : Int} {w : World} {v : Value} (h : LitAt T S n lo hi w v) {k : Nat} (hk : k < n) :
    ∃ G, v = .slice (some ⟨G, 0, none⟩) n n ∧ PickAt T S lo hi w (.pointer (some ⟨G, k, none⟩)) := by
  obtain ⟨G, row, rfl, h1, h2, h3, h4⟩ := h
  obtain ⟨x, hx, hl, hh⟩ := h4 k hk
  exact ⟨G, rfl, G, k, row, x, rfl, h1, h2, h3, hx, hl, hh⟩
theorem PickAt.cell {T : TypeId} {S : Nat} {lo hi : Int} {w : World} {v : Value} (h : PickAt T S lo hi w v) : ∃ p x, v = .pointer (some p) ∧ w.cell? p = some (.int .i64 x) ∧ lo ≤ x ∧ x ≤ hi := by
  obtain ⟨G, k, row, x, rfl, h1, h2, h3, h4, h5, h6⟩ := h
  exact ⟨⟨G, k, none⟩, x, rfl, (cell_of_row w G k row T (0, 0) h3).trans h4, h5, h6⟩

/-- What a region leaves that writes block S, and besides rows of which that is said alone. -/
def RStep (S : Nat) (F : World → Nat → Prop) (w w' : World) : Prop := w.heap.size ≤ w'.heap.size ∧ ∀ k, k < w.heap.size → k ≠ S → w'.heap[k]? = w.heap[k]? ∨ (F w k ∧ F w' k)
theorem RStep.grown {S : Nat} {F : World → Nat → Prop} {w w' : World} (h : w.grownBy w' (some S)) : RStep S F w w' :=
  ⟨h.size, fun k hk hne => .inl (h.block k hk fun e => hne (by simpa using e))⟩
theorem RStep.refl (S : Nat) (F : World → Nat → Prop) (w : World) : RStep S F w w := ⟨Nat.le_refl _, fun _ _ _ => .inl rfl⟩
theorem LitAt.kept {T : TypeId} {S n : Nat} {lo hi : Int} {F : World → Nat → Prop} {w w' : World} {v : Value} (hF : ∀ w k, F w k → ∀ row, w.heap[k]? ≠ some (.cells row T (0, 0))) (hR : RStep S F w w') (h : LitAt T S n lo hi w v) : LitAt T S n lo hi w' v := by
  obtain ⟨G, row, e, h1, h2, h3, h4⟩ := h
  refine ⟨G, row, e, h1, Nat.lt_of_lt_of_le h2 hR.1, ?_, h4⟩
  rcases hR.2 G h2 h1 with q | ⟨q, _⟩
  · rw [q]; exact h3
  · exact absurd h3 (hF w G q row)
theorem PickAt.kept {T : TypeId} {S : Nat} {lo hi : Int} {F : World → Nat → Prop} {w w' : World} {v : Value} (hF : ∀ w k, F w k → ∀ row, w.heap[k]? ≠ some (.cells row T (0, 0))) (hR : RStep S F w w') (h : PickAt T S lo hi w v) : PickAt T S lo hi w' v := by
  obtain ⟨G, k, row, x, e, h1, h2, h3, h4⟩ := h
  refine ⟨G, k, row, x, e, h1, Nat.lt_of_lt_of_le h2 hR.1, ?_, h4⟩
  rcases hR.2 G h2 h1 with q | ⟨q, _⟩
  · rw [q]; exact h3
  · exact absurd h3 (hF w G q row)
end Go.Proofs.Ytpolpkheaibonaa
/- A region in any order, one of whose operations makes memory that a later one writes: what is said of an operation may speak of that one's value. -/
namespace Go.Proofs.Ytpolpkheaibonaa
open Go.RowKit
set_option linter.unusedVariables false

section
variable {P : Program} {ops : Array Oper} {Q : Exit → Act → World → Prop}
/-- What an operation may take as known; x: the value of the one that makes memory. -/
structure KnownZ (ops : Array Oper) (T : Nat → World → Value → Value → Prop) (x : Value) (a0 : Act) (o : Oper) (a : Act) (w : World) : Prop where
  old : ∀ s, freeOf (some s) ops.toList = true → a.eval (.tmp s) = a0.eval (.tmp s)
  dep : ∀ e ∈ o.after, Region.binds .any e = true → ∀ oj s, ops[e.on]? = some oj → oj.dst = some s → s < a0.tmps.size → T e.on w x (a.eval (.tmp s))
def ObZ (P : Program) (ops : Array Oper) (Q : Exit → Act → World → Prop) (z : Nat) (C : World → Prop) (R : World → World → Prop) (T : Nat → World → Value → Value → Prop) (a0 : Act) (i : Nat) (o : Oper) : Prop :=
  o.guard = none ∧ ∀ a w x, C w → KnownZ ops T x a0 o a w → o.wp P a w (fun a' w' => ∃ v, a' = a.put o.dst v ∧ C w' ∧ R w w' ∧ T i w' (if i = z then v else x) v) Q
def ObAllZ (P : Program) (ops : Array Oper) (Q : Exit → Act → World → Prop) (z : Nat) (C : World → Prop) (R : World → World → Prop) (T : Nat → World → Value → Value → Prop) (a0 : Act) : List Oper → Nat → Prop
  | [], _ => True
  | o :: r, k => ObZ P ops Q z C R T a0 k o ∧ ObAllZ P ops Q z C R T a0 r (k + 1)
theorem ObAllZ.get {z : Nat} {C : World → Prop} {R : World → World → Prop} {T : Nat → World → Value → Value → Prop} {a0 : Act} : ∀ (l : List Oper) (k i : Nat) (o : Oper), ObAllZ P ops Q z C R T a0 l k → l[i]? = some o → ObZ P ops Q z C R T a0 (k + i) o := by
  intro l
  induction l with
  | nil => intro k i o _ h; simp at h
  | cons o' r ih =>
    intro k i o hall h
    rcases i with _ | i
    · simp at h; subst h; exact hall.1
    · rw [show k + (i + 1) = k + 1 + i by omega]
      exact ih (k + 1) i o hall.2 (by simpa using h)
theorem KnownZ.get {T : Nat → World → Value → Value → Prop} {x : Value} {a0 : Act} {o : Oper} {a : Act} {w : World} (hK : KnownZ ops T x a0 o a w) (k s : Nat) {oj : Oper} (he : o.after.any (fun e => (e.on == k) && Region.binds .any e) = true) (hoj : ops[k]? = some oj) (hd : oj.dst = some s)
    (hs : Nat.ble (s + 1) a0.tmps.size = true) : T k w x (a.eval (.tmp s)) := by
  obtain ⟨e, he1, he2⟩ := Array.any_eq_true'.1 he
  simp only [Bool.and_eq_true] at he2
  have hk : e.on = k := by simpa using he2.1
  subst hk
  exact hK.dep e he1 he2.2 oj s hoj hd (Nat.le_of_ble_eq_true hs)
theorem wp_region_anyordZ {id : Nat} {a0 : Act} {w : World} (z : Nat) (C : World → Prop) (R : World → World → Prop) (T : Nat → World → Value → Value → Prop) (hm : P.follows .mixedOrders = true)
    (hap : apartAll ops.toList = true) (hbk : backB ops.toList 0 = true)
    (hst : ∀ j w w' x v, R w w' → T j w x v → T j w' x v) (hind : ∀ j o, ops[j]? = some o → j ≠ z → (o.after.any fun e => Region.binds .any e && (e.on == z)) = false → ∀ w x x' v, T j w x v → T j w x' v) (hC : C { w with drawn := w.drawn + 1 })
    (hob : ObAllZ P ops Q z C R T a0 ops.toList 0)
    (hQ : ∀ vs w', C w' → (∀ i, i < ops.size → T i w' (vs z) (vs i)) → Q .normal (fillL vs (fun _ => true) ops.toList 0 a0) w') : (Code.region id ops true).wp P Q a0 w := by
  refine wp_region_any hm (wpAny_of_inv (Inv := fun listed a w => listed.size = ops.size ∧ C w ∧ ∃ vs, a = fillL vs (fun j => listed.getD j false) ops.toList 0 a0 ∧ (∀ i, listed.getD i false = true → T i w (vs z) (vs i)) ∧ ∀ j o, listed.getD j false = true → ops[j]? = some o → ∀ e ∈ o.after, Region.binds .any e = true → listed.getD e.on false = true) ?_ ?_ _ _ _ _ ⟨by simp, hC, fun _ => undef, ?_, ?_, ?_⟩ ?_)
  · intro listed a w i ⟨hsz, hCw, vs, ha, hT, hcl⟩ hi
    obtain ⟨hun, o, ho, hdeps⟩ := mem_ready.1 hi
    have hil : i < ops.size := (Array.getElem?_eq_some_iff.1 ho).1
    have hol : ops.toList[i]? = some o := by rw [Array.getElem?_toList]; exact ho
    have hunf : listed.getD i false = false := by
      have h1 : i < listed.size := by omega
      simp [h1] at hun ⊢
      exact hun
    have hObi := hob.get ops.toList 0 i o hol
    rw [Nat.zero_add] at hObi
    obtain ⟨hg, hwp⟩ := hObi
    have hK : KnownZ ops T (vs z) a0 o a w := by
      refine ⟨fun s hs => by rw [ha]; exact fillL_other vs _ s _ 0 a0 hs, fun e he hbe oj s hoj hd hs => ?_⟩
      have hl := hdeps e he hbe
      have := fillL_at vs (fun j => listed.getD j false) s ops.toList 0 e.on oj a0 hap (by rw [Array.getElem?_toList]; exact hoj) hd (by rw [Nat.zero_add]; exact hl) hs
      rw [Nat.zero_add] at this
      rw [ha, this]
      exact hT e.on hl
    unfold wpOp
    rw [ho]
    have hw : Region.wanted o (yielded ops a.tmps) = true := by simp [Region.wanted, hg]
    simp only [hw, if_true]
    refine .inl (Oper.wp_mono (fun a' w' ⟨v, ha', hC', hR, hTv⟩ => ?_) (hwp a w (vs z) hCw hK))
    refine ⟨by simpa using hsz, hC', upd vs i v, ?_, fun j hj => ?_, fun j oj hj hoj e he hbe => ?_⟩
    · have hs := fillL_step vs (fun j => listed.getD j false) v ops.toList 0 i o a0 hap hol (by rw [Nat.zero_add]; exact hunf)
      rw [Nat.zero_add] at hs
      rw [ha', ha, ← hs]
      refine fillL_congr _ 0 _ fun j _ => ⟨?_, fun _ => rfl⟩
      unfold upd
      by_cases hj : j = i
      · subst hj
        have h1 : j < listed.size := by omega
        simp [h1]
      · rw [if_neg hj]
        simp [Array.getD_eq_getD_getElem?, Ne.symm hj]
    · by_cases hji : j = i
      · subst hji
        have e1 : upd vs j v z = if j = z then v else vs z := by
          unfold upd
          by_cases hz : z = j
          · rw [if_pos hz, if_pos hz.symm]
          · rw [if_neg hz, if_neg (Ne.symm hz)]
        rw [e1]
        simpa [upd] using hTv
      · have h2 : listed.getD j false = true := by
          simpa [Array.getD_eq_getD_getElem?, Array.getElem?_setIfInBounds, Ne.symm hji] using hj
        have h3 := hst j w w' _ _ hR (hT j h2)
        have e2 : upd vs i v j = vs j := by unfold upd; rw [if_neg hji]
        rw [e2]
        by_cases hz : z = i
        · subst hz
          have hjs : j < ops.size := by
            rcases Nat.lt_or_ge j ops.size with h | h
            · exact h
            · rw [Array.getD_eq_getD_getElem?, Array.getElem?_eq_none (by omega)] at h2
              cases h2
          refine hind j ops[j] (Array.getElem?_eq_getElem hjs) hji ?_ w' _ _ _ h3
          rw [Bool.eq_false_iff]
          intro hany
          obtain ⟨e, he1, he2⟩ := Array.any_eq_true'.1 hany
          simp only [Bool.and_eq_true, beq_iff_eq] at he2
          have := hcl j ops[j] h2 (Array.getElem?_eq_getElem hjs) e he1 he2.1
          rw [he2.2, hunf] at this
          cases this
        · have e3 : upd vs i v z = vs z := by unfold upd; rw [if_neg hz]
          rw [e3]
          exact h3
    · have hset : ∀ k, listed.getD k false = true → (listed.setIfInBounds i true).getD k false = true := by
        intro k hk
        by_cases hki : k = i
        · subst hki
          have h1 : k < listed.size := by omega
          simp [Array.getD_eq_getD_getElem?, h1]
        · simpa [Array.getD_eq_getD_getElem?, Array.getElem?_setIfInBounds, Ne.symm hki] using hk
      by_cases hji : j = i
      · subst hji
        rw [ho] at hoj
        obtain rfl := Option.some.inj hoj
        exact hset _ (hdeps e he hbe)
      · have h2 : listed.getD j false = true := by
          simpa [Array.getD_eq_getD_getElem?, Array.getElem?_setIfInBounds, Ne.symm hji] using hj
        exact hset _ (hcl j oj h2 hoj e he hbe)
  · intro listed a w ⟨hsz, hCw, vs, ha, hT, _⟩ h0
    have hall : ∀ n j, j < n → j < ops.size → listed.getD j false = true := by
      intro n
      induction n with
      | zero => intro j h; omega
      | succ n ih =>
        intro j hj hjs
        rcases Nat.lt_or_ge j n with h1 | h1
        · exact ih j h1 hjs
        obtain rfl : j = n := by omega
        cases hl : listed.getD j false with
        | true => rfl
        | false =>
          exfalso
          have hmem : j ∈ Region.ready .any ops listed := by
            refine mem_ready.2 ⟨?_, ops[j], Array.getElem?_eq_getElem hjs, fun e he hbe => ?_⟩
            · have h1 : j < listed.size := by omega
              simp [h1] at hl ⊢
              exact hl
            · have := backB_get ops.toList 0 j ops[j] hbk (by rw [Array.getElem?_toList]; exact Array.getElem?_eq_getElem hjs) e he hbe
              exact ih e.on (by omega) (by omega)
          rw [h0] at hmem
          cases hmem
    rw [ha, fillL_all vs _ ops.toList 0 a0 (fun j _ h => hall ops.size j (by simpa using h) (by simpa using h))]
    exact hQ vs w hCw fun i hi => hT i (hall ops.size i hi hi)
  · symm
    have : ∀ (l : List Oper) k, fillL (fun _ => undef) (fun j => (Array.replicate ops.size false).getD j false) l k a0 = a0 := by
      intro l
      induction l with
      | nil => intro k; rfl
      | cons o r ih =>
        intro k
        show fillL _ _ r (k + 1) (if (Array.replicate ops.size false).getD k false = true then _ else a0) = a0
        rw [if_neg (by simp [Array.getD_eq_getD_getElem?, Array.getElem?_replicate]; split <;> simp)]
        exact ih (k + 1)
    exact this _ _
  · intro i hi
    exfalso
    simp [Array.getD_eq_getD_getElem?, Array.getElem?_replicate] at hi
    split at hi <;> simp at hi
  · intro i o hi
    exfalso
    simp [Array.getD_eq_getD_getElem?, Array.getElem?_replicate] at hi
    split at hi <;> simp at hi
  · have : (Array.replicate ops.size false).toList.count false = ops.size := by simp
    omega
end
end Go.Proofs.Ytpolpkheaibonaa
/- An empty literal, and an append to it, as operations of a region in any order; numbers of a row of items. -/
namespace Go.Proofs.Ytpolpkheaibonaa
open Go.RowKit
set_option linter.unusedVariables false

/-- A number, as an item of one cell. -/
def nC (x : Int) : List Value := [.int .i64 x]
theorem nC_len (x : Int) : (nC x).length = 1 := rfl
theorem nC_one (x : Int) : ∀ u ∈ nC x, u.oneCell' = true := by
  intro u hu
  simp [nC] at hu
  subst hu
  rfl
theorem NumsIn.rs {w : World} {a : Option Addr} {l : List Int} (h : NumsIn w a l) : RsIn nC 1 w a l := by
  rcases h with h | ⟨b, o, rfl, hlt, hc⟩
  · exact .inl h
  · refine .inr ⟨b, o, rfl, hlt, fun i x hx j v hv => ?_⟩
    rcases j with _ | j
    · simp [nC] at hv
      subst hv
      rw [Nat.mul_one]
      exact hc i x hx
    · simp [nC] at hv
theorem RsNew.nums {e : TypeId} {lo hi : Nat} {w : World} {a : Option Addr} {l : List Int} (h : RsNew nC 1 e lo hi w a l) : NumsNew lo hi w a l := by
  rcases h with h | ⟨b, o, row, rfl, h1, h2, hg, hs, hc⟩
  · exact .inl h
  · refine .inr ⟨b, o, rfl, h1, h2, (Array.getElem?_eq_some_iff.1 hg).1, fun j hj => frozen_of_row w b (o + j) _ _ hg, fun i x hx => ?_⟩
    have := hc i x hx 0 _ rfl
    rw [Nat.mul_one, Nat.add_zero] at this
    exact (cell_of_row w b (o + i) row e (0, 0) hg).trans this
/-- Rows of two types stand in two blocks. -/
theorem RsNew.apart {α β : Type} {c : α → List Value} {d : β → List Value} {s t : Nat} {e f : TypeId} {lo hi lo' hi' : Nat} {w : World} {a b : Option Addr} {l : List α} {m : List β} (hne : e ≠ f)
    (h : RsNew c s e lo hi w a l) (h' : RsNew d t f lo' hi' w b m) (h1 : lo ≤ hi) (h2 : lo' ≤ hi') :
    ∃ x1 y1 x2 y2, (lo ≤ x1 ∧ x1 ≤ y1 ∧ y1 ≤ hi) ∧ (lo' ≤ x2 ∧ x2 ≤ y2 ∧ y2 ≤ hi') ∧ (y1 ≤ x2 ∨ y2 ≤ x1) ∧ RsNew c s e x1 y1 w a l ∧ RsNew d t f x2 y2 w b m := by
  rcases h with rfl | ⟨B, o, row, rfl, g1, g2, hg, hs, hc⟩
  · by_cases q : lo ≤ lo'
    · exact ⟨lo, lo, lo', hi', by omega, by omega, .inl q, .inl rfl, h'⟩
    · rcases h' with rfl | ⟨B', o', row', rfl, g1', g2', hg', hs', hc'⟩
      · exact ⟨lo, lo, lo', lo', by omega, by omega, .inr (by omega), .inl rfl, .inl rfl⟩
      · by_cases q2 : B' < lo
        · exact ⟨lo, lo, B', B' + 1, by omega, by omega, .inr q2, .inl rfl, .inr ⟨B', o', row', rfl, Nat.le_refl _, Nat.lt_succ_self _, hg', hs', hc'⟩⟩
        · exact ⟨lo, lo, B', B' + 1, by omega, by omega, .inl (by omega), .inl rfl, .inr ⟨B', o', row', rfl, Nat.le_refl _, Nat.lt_succ_self _, hg', hs', hc'⟩⟩
  · have k1 : RsNew c s e B (B + 1) w (some ⟨B, o, none⟩) l := .inr ⟨B, o, row, rfl, Nat.le_refl _, Nat.lt_succ_self _, hg, hs, hc⟩
    rcases h' with rfl | ⟨B', o', row', rfl, g1', g2', hg', hs', hc'⟩
    · by_cases q : B < lo'
      · exact ⟨B, B + 1, lo', lo', by omega, by omega, .inl q, k1, .inl rfl⟩
      · exact ⟨B, B + 1, lo', lo', by omega, by omega, .inr (by omega), k1, .inl rfl⟩
    · have hBB : B ≠ B' := by
        rintro rfl
        rw [hg] at hg'
        injection hg' with hg'
        injection hg' with _ ht _
        exact hne ht
      exact ⟨B, B + 1, B', B' + 1, by omega, by omega, by omega, k1, .inr ⟨B', o', row', rfl, Nat.le_refl _, Nat.lt_succ_self _, hg', hs', hc'⟩⟩

section
variable {P : Program} {o : Oper} {a : Act} {w : World} {K : Act → World → Prop} {Q : Exit → Act → World → Prop}
theorem ob_lit0 (t : TypeId) (ho : o.op = .buildSlice t 0 #[]) (e : TypeId) (i : TypeInfo) (ht : P.underlying t = some (.slice e)) (hi : P.info? e = some i)
    (h : ∀ w' g, w.heap.size = g → Below w.heap.size w w' → K (a.put o.dst (.slice (some ⟨g, 0, none⟩) 0 0)) w') : o.wp P a w K Q := by
  have := h (w.alloc (.cells #[] e)) _ rfl ((Below.refl _ _).alloc (Nat.le_refl _) _)
  unfold Oper.wp execOp
  simp [ho, Instr.buildSlice, run_underlying ht, sizeOf, typeInfo, hi, Instr.fill, newRow, run_newObj_alloc, -run_newObj, Result.andThen_ok, show ∀ f : Nat → Value, (Array.range 0).map f = #[] from fun f => Array.eq_empty_of_size_eq_zero (by simp)]
  exact this
/-- append of a slice of items to an empty literal. -/
theorem ob_append0 {α : Type} {c : α → List Value} {size : Nat} (hc : ∀ x, (c x).length = size) (hone : ∀ x, ∀ u ∈ c x, u.oneCell' = true) (s x : Operand) (t : TypeId)
    (ho : o.op = .call { callee := .builtin .append, args := #[s, x], argTypes := #[t, t] })
    (e : TypeId) (i : TypeInfo) (z : Value) (bytes : Nat) (ht : P.underlying t = some (.slice e)) (hi : P.info? e = some i) (hz : i.zero = some z)
    (hsize : i.size = size) (hby : i.bytes = bytes) (hzs : z.cells.size = size) (hsz : 0 < size)
    (g : Nat) (hs : a.eval s = .slice (some ⟨g, 0, none⟩) 0 0)
    (ad : Option Addr) (cap : Nat) (m : List α) (hx : a.eval x = .slice ad m.length cap) (hin : RsIn c size w ad m)
    (h63 : m.length ≤ maxLen) (hbytes : m.length * bytes ≤ 140737488355328)
    (h : ∀ w' a' c', m.length ≤ c' → RsNew c size e w.heap.size w'.heap.size w' a' m → Below w.heap.size w w' → K (a.put o.dst (.slice a' m.length c')) w') : o.wp P a w K Q := by
  rcases m with _ | ⟨y, m⟩
  · have hrun : (Builtin.append_ #[t, t] o.type #[.slice (some ⟨g, 0, none⟩) 0 0, .slice ad 0 cap]).run P w = .ok (.slice (some ⟨g, 0, none⟩) 0 0) w := by
      have hl : ∀ (x : Addr), (loadCells x 0).run P w = .ok #[] w := fun x => by simpa using run_loadCells_list (P := P) w x [] (by simp)
      cases ad <;> simp [Builtin.append_, run_underlying ht, sizeOf, typeInfo, hi, Builtin.lenOf, Builtin.firstCells, storeCells, hl]
    unfold Oper.wp
    simp [execOp, ho, resolve, invoke, builtin, hs, hx, hrun, Result.andThen]
    exact h w _ _ (Nat.le_refl _) (.inl rfl) (Below.refl _ _)
  · rcases hin with h0 | ⟨b, o', rfl, hlt, hcs⟩
    · cases h0
    · have hfl := flat_len c size hc (y :: m)
      have hpos : 0 < (y :: m).length := by simp
      have hold : (Builtin.firstCells i.size 0 (.slice (some ⟨g, 0, none⟩) 0 0)).run P w.drew = .ok ([] : List Value).toArray w.drew :=
        run_firstCells_some w.drew i.size 0 ⟨g, 0, none⟩ 0 0 [] (by simp) (fun j v hj => by simp at hj)
      have hsrc : Src P i.size t (.slice (some ⟨b, o', none⟩) (y :: m).length cap) (y :: m).length ((y :: m).flatMap c) w := by
        rw [hsize]
        exact Src.ofSlice w ht ⟨b, o', none⟩ _ cap _ hfl (RsIn.news hc hcs) (fun u hu => by
          rw [List.mem_flatMap] at hu
          obtain ⟨x', _, hx'⟩ := hu
          exact hone x' u hx')
      have hr := run_append_grow_src w t t o.type e i z ht hi hz (some ⟨g, 0, none⟩) 0 0 [] hold _ _ _ hsrc (by omega) (by unfold maxLen at h63; omega) (growslice_fits (by omega) (by rw [hby, Nat.zero_add]; exact hbytes))
      rw [Nat.zero_add, List.nil_append] at hr
      generalize hN : (y :: m).length = N at *
      unfold Oper.wp execOp
      simp only [ho, resolve, invoke, builtin, Sem.run_bind, Sem.run_pure, Result.andThen_ok, List.map_toArray, List.map_cons, List.map_nil, hs, hx, hr]
      have hh := heap_alloc_new w.drew (.cells (((y :: m).flatMap c).toArray ++ Builtin.zeroCells z.cells (grownCap w N 0 e - N)) e)
      have hge := grownCap_ge w N 0 e
      refine h _ _ _ hge (.inr ⟨w.heap.size, 0, _, rfl, Nat.le_refl _, by simp, hh, ?_, fun i' x' hx' j v hv => ?_⟩) ((Below.refl _ _).drew.alloc (Nat.le_refl _) _)
      · rw [hN, Array.size_append, List.size_toArray, hfl]
        omega
      · have h1 := flat_at c size hc (y :: m) i' x' hx' j v hv
        have h2 := (List.getElem?_eq_some_iff.1 h1).1
        rw [Nat.zero_add, Array.getElem?_append_left (by simpa using h2)]
        simpa using h1
/-- A store over a whole block that is said whole. -/
theorem ob_put_row (ty : TypeId) (x y : Operand) (ho : o.op = .store ty x y) (g : Nat) (hx : a.eval x = .pointer (some ⟨g, 0, none⟩)) (v : Value) (hy : a.eval y = v) (cells : Array Value) (hcs : v.cells = cells)
    (t : TypeId) (old new : Array Value) (hg : w.heap[g]? = some (.cells old t (0, 0))) (hi : (P.info? ty).map (·.size) = some cells.size) (hk0 : Nat.ble (0 + cells.size) old.size = true) (h1 : cells.toList.all (·.oneCell') = true) (hnew : setAll old 0 cells.toList = new)
    (h : ∀ w', w'.heap[g]? = some (.cells new t (0, 0)) → Out g (g + 1) w w' → K (a.put o.dst undef) w') : o.wp P a w K Q := by
  have hk : 0 + cells.size ≤ old.size := Nat.le_of_ble_eq_true hk0
  have ht : w.there g 0 cells.size := fun j hj => by
    refine ⟨?_, frozen_of_row w g (0 + j) old t hg⟩
    rw [cell_of_row w g (0 + j) old t (0, 0) hg, Array.getElem?_eq_getElem (by omega)]
    rfl
  have hrun := run_storeCells_cells (P := P) g 0 cells.toList 0 w (fun j hj => by simpa using (ht j (by simpa using hj)).1) (fun j hj => by simpa using (ht j (by simpa using hj)).2)
    (fun v hv => List.all_eq_true.1 h1 v hv)
  have hrun2 : (storeVar ty ⟨g, 0, none⟩ v).run P w = .ok () (w.setCells g 0 cells.toList) := by
    cases hq : P.info? ty with
    | none => simp [hq] at hi
    | some i =>
      have hs : cells.size = i.size := by simp [hq] at hi; omega
      simp only [Nat.add_zero] at hrun
      simp [storeVar, sizeOf, typeInfo, hq, hcs, hs, hrun]
  refine ob_skip (w' := w.setCells g 0 cells.toList) ?_ (h _ (hnew ▸ heap_setCells g t cells.toList w 0 old hg) (out_setCells g cells.toList w 0))
  unfold execOp
  simp only [ho, hx, hy, Instr.storeAt, Instr.sureAddr, Sem.run_bind, Sem.run_pure, Result.andThen_ok, hrun2]
end
end Go.Proofs.Ytpolpkheaibonaa
/- What was Got is right: the program's gotRight. Nothing that was there is written. -/
namespace Go.Proofs.Ytpolpkheaibonaa
open Go.RowKit
set_option linter.unusedVariables false

/-- Of a group in the table, of somebody, all its data. -/
def gtB (g : Gt) : Bool := decide (ixD g.p < 6) && (inB 0 255 g.s && ((g.dt.size : Int) == (defD g.p).s))
theorem defD_zero (p : Int) : ((defD p).s == 0) = !(decide (ixD p < 6)) := by
  have h := ixD_le p
  unfold defD
  generalize ixD p = i at *
  rcases i with _ | _ | _ | _ | _ | _ | _ | i
  all_goals first | decide | omega
theorem row4 {w : World} {g : Nat} {T : TypeId} (v0 v1 v2 v3 : Value) (h : w.heap[g]? = some (.cells #[.int .i64 0, .int .i64 0, .int .i64 0, .slice none 0 0] T (0, 0))) :
    ((((w.setCell ⟨g, 0, none⟩ v0).setCell ⟨g, 1, none⟩ v1).setCell ⟨g, 2, none⟩ v2).setCell ⟨g, 3, none⟩ v3).heap[g]? = some (.cells #[v0, v1, v2, v3] T (0, 0)) ∧ Out g (g + 1) w ((((w.setCell ⟨g, 0, none⟩ v0).setCell ⟨g, 1, none⟩ v1).setCell ⟨g, 2, none⟩ v2).setCell ⟨g, 3, none⟩ v3) :=
  ⟨(show (w.setCells g 0 [v0, v1, v2, v3]).heap[g]? = _ from (by
    rw [← (show setAll #[.int .i64 0, .int .i64 0, .int .i64 0, .slice none 0 0] 0 [v0, v1, v2, v3] = #[v0, v1, v2, v3] by kernel_rfl)]
    exact heap_setCells g T _ w 0 _ h)), (show Out g (g + 1) w (w.setCells g 0 [v0, v1, v2, v3]) from out_setCells g _ w 0)⟩
/-- A row of the table, its Fields standing from B on. -/
def ansO (PP SS RR : Int) (NN : Nat) (p : Int) (B : Nat) : Obj := .cells #[.int .i64 PP, .int .i64 SS, .int .i64 RR, .slice (aD B p) NN NN] 117 (0, 0)
def zeroO : Obj := .cells #[.int .i64 0, .int .i64 0, .int .i64 0, .slice none 0 0] 117 (0, 0)
/-- What the region leaves: a row of zeros may become the answer. -/
def RG (A : Nat → Obj) (W W' : World) : Prop := W.heap.size ≤ W'.heap.size ∧ ∀ k, k < W.heap.size → W'.heap[k]? = W.heap[k]? ∨ ((W.heap[k]? = some zeroO ∨ ∃ B, W.heap[k]? = some (A B)) ∧ ∃ B, W'.heap[k]? = some (A B))
section
variable {PP SS RR p : Int} {NN : Nat} {W W' : World}
theorem RG.refl (A : Nat → Obj) (W : World) : RG A W W := ⟨Nat.le_refl _, fun _ _ => .inl rfl⟩
theorem RG.below (A : Nat → Obj) (h : Below W.heap.size W W') : RG A W W' := ⟨h.size, fun k hk => .inl (h.block k hk)⟩
theorem RG.tab (h : RG (ansO PP SS RR NN p) W W') {B G : Nat} (k : TabAt B G W) : TabAt B G W' := by
  refine ⟨?_, fun i x hx => ?_⟩
  · rcases h.2 G (Array.getElem?_eq_some_iff.1 k.rows).1 with q | ⟨q | ⟨B', q⟩, _⟩
    · exact q.trans k.rows
    · have := k.rows.symm.trans q
      unfold zeroO at this
      simp [dxs, dxL] at this
    · have := k.rows.symm.trans q
      unfold ansO at this
      simp [dxs, dxL] at this
  · have hk := k.flds i x hx
    rcases h.2 _ (Array.getElem?_eq_some_iff.1 hk).1 with q | ⟨q | ⟨B', q⟩, _⟩
    · exact q.trans hk
    · have := hk.symm.trans q
      unfold zeroO at this
      simp at this
    · have := hk.symm.trans q
      unfold ansO at this
      simp at this
end
/-- What each operation's value is; x: the new row's address. -/
def TGR (R1 lo : Nat) (PP SS RR : Int) (NN : Nat) (p : Int) (DD : Bool) : Nat → World → Value → Value → Prop
  | 0, W, _, v => ∃ G B, v = .slice (some ⟨G, 0, none⟩) 6 6 ∧ TabAt B G W
  | 1, _, _, v => v = .pointer (some ⟨R1, 1, none⟩)
  | 2, _, _, v => v = .int .i64 p
  | 3, _, _, v => ∃ B, v = .tuple #[.agg #[.int .i64 PP, .int .i64 SS, .int .i64 RR, .slice (aD B p) NN NN], .bool DD]
  | 4, _, _, v => ∃ B, v = .tuple #[.agg #[.int .i64 PP, .int .i64 SS, .int .i64 RR, .slice (aD B p) NN NN], .bool DD]
  | 5, _, _, v => ∃ B, v = .agg #[.int .i64 PP, .int .i64 SS, .int .i64 RR, .slice (aD B p) NN NN]
  | 6, _, _, v => v = .bool DD
  | 7, W, x, v => v = x ∧ ∃ k, x = .pointer (some ⟨k, 0, none⟩) ∧ lo ≤ k ∧ (W.heap[k]? = some zeroO ∨ ∃ B, W.heap[k]? = some (ansO PP SS RR NN p B))
  | 8, W, x, _ => ∃ k, x = .pointer (some ⟨k, 0, none⟩) ∧ lo ≤ k ∧ ∃ B, W.heap[k]? = some (ansO PP SS RR NN p B)
  | 9, _, _, v => v = .bool DD
  | _ + 10, _, _, _ => True
theorem TGR.kept {R1 lo : Nat} {PP SS RR : Int} {NN : Nat} {p : Int} {DD : Bool} : ∀ j w w' x v, RG (ansO PP SS RR NN p) w w' → TGR R1 lo PP SS RR NN p DD j w x v → TGR R1 lo PP SS RR NN p DD j w' x v
  | 0, _, _, _, _, hR, ⟨G, B, h1, h2⟩ => ⟨G, B, h1, hR.tab h2⟩
  | 1, _, _, _, _, _, h | 2, _, _, _, _, _, h | 3, _, _, _, _, _, h | 4, _, _, _, _, _, h | 5, _, _, _, _, _, h | 6, _, _, _, _, _, h | 9, _, _, _, _, _, h => h
  | 7, _, _, _, _, hR, ⟨h1, k, h2, h3, h4⟩ => by
    refine ⟨h1, k, h2, h3, ?_⟩
    have hk : k < _ := h4.elim (fun h => (Array.getElem?_eq_some_iff.1 h).1) (fun ⟨B, h⟩ => (Array.getElem?_eq_some_iff.1 h).1)
    rcases hR.2 k hk with q | ⟨_, q⟩
    · rw [q]; exact h4
    · exact .inr q
  | 8, _, _, _, _, hR, ⟨k, h2, h3, B, h4⟩ => by
    refine ⟨k, h2, h3, ?_⟩
    rcases hR.2 k (Array.getElem?_eq_some_iff.1 h4).1 with q | ⟨_, q⟩
    · exact ⟨B, q.trans h4⟩
    · exact q
  | _ + 10, _, _, _, _, _, h => h
set_option maxRecDepth 100000 in
set_option maxHeartbeats 16000000 in
theorem gotRight_any (x : Gt) (w : World) (hlen : x.dt.size ≤ maxLen) :
    Calls Try.prog 78 #[.agg (gtL x).toArray] w fun e w' => e = .returned (.bool (gtB x)) ∧ Below w.heap.size w w' := by
  obtain ⟨s, p, dt⟩ := x
  have HB := Lib.hid (show gtB ⟨s, p, dt⟩ = (decide (ixD p < 6) && (inB 0 255 s && ((dt.size : Int) == (defD p).s))) from rfl)
  have HRow := fun B G W h => Lib.hid (rowOf_d B G p W h)
  unfold gtL
  dsimp only at *
  unfold maxLen at hlen
  generalize gtB ⟨s, p, dt⟩ = RES at *
  generalize hDD : decide (ixD p < 6) = DD at *
  generalize hP : (defD p).p = PP at *
  generalize hS : (defD p).s = SS at *
  generalize hR : (defD p).r = RR at *
  generalize hF : (defD p).fs.length = NN at *
  clear hDD hP hS hR hF
  go_enter Try.func78, Try.ntmps78
  go_wp2_with (first
    | (refine wpList_box_h rfl 120 (.tmp 0) rfl #[.int .i64 s, .int .i64 p, .string dt] rfl ?_; intro w1 R1 e1 g1 b1; have HL1 := Lib.hid (show Lg w w1 [(R1, #[.int .i64 s, .int .i64 p, .string dt], 120)] [] from (Lg.first w).box e1 g1 b1); clear g1 b1 e1))
  have HRB := Lib.hid (HL1.out.get (.head _))
  have hR1 : R1 < w1.heap.size := HL1.out.lt (.head _)
  refine wp_region_anyordZ 7 (fun W => Below w1.heap.size w1 W) (RG (ansO PP SS RR NN p)) (TGR R1 w1.heap.size PP SS RR NN p DD) (by kernel_rfl) (by kernel_rfl) (by kernel_rfl) TGR.kept ?_ (Below.refl _ _).drew ?_ ?_
  · intro j o ho hz hd ww x x' v hT
    rcases j with _ | _ | _ | _ | _ | _ | _ | _ | _ | _ | j
    · exact hT
    · exact hT
    · exact hT
    · exact hT
    · exact hT
    · exact hT
    · exact hT
    · exact absurd rfl hz
    · cases ho
      exact absurd (hd.symm.trans (show _ = true from by kernel_rfl)) (by simp)
    · exact hT
    · trivial
  · refine ⟨⟨rfl, fun a1 W x hC hK => ?_⟩, ⟨rfl, fun a1 W x hC hK => ?_⟩, ⟨rfl, fun a1 W x hC hK => ?_⟩, ⟨rfl, fun a1 W x hC hK => ?_⟩, ⟨rfl, fun a1 W x hC hK => ?_⟩, ⟨rfl, fun a1 W x hC hK => ?_⟩, ⟨rfl, fun a1 W x hC hK => ?_⟩, ⟨rfl, fun a1 W x hC hK => ?_⟩, ⟨rfl, fun a1 W x hC hK => ?_⟩, ⟨rfl, fun a1 W x hC hK => ?_⟩, trivial⟩
    · refine ob_call rfl Try.func124 (by kernel_rfl) (by kernel_rfl) (vals := #[]) (by simp) ?_
      refine (defs_any W).mono ?_
      rintro e w' ⟨G, rfl, hT, hb⟩
      exact ⟨_, rfl, _, rfl, hC.trans (hb.mono hC.size), RG.below _ hb, G, _, rfl, hT⟩
    · have e1 : a1.eval (.tmp 1) = .pointer (some ⟨R1, 0, none⟩) := (hK.old 1 (by kernel_rfl)).trans rfl
      have c1 := (hC.cell (p := ⟨R1, 1, none⟩) hR1).trans (cell_of_row w1 R1 1 _ _ (0, 0) HRB.out)
      have c0 := (hC.cell (p := ⟨R1, 0, none⟩) hR1).trans (cell_of_row w1 R1 0 _ _ (0, 0) HRB.out)
      simp only [Act.eval, Array.getD_eq_getD_getElem?] at e1
      exact ob_value (v := .pointer (some ⟨R1, 1, none⟩)) (w' := W) (by simp [execOp, go_sem, e1]) ⟨_, rfl, hC, RG.refl _ _, rfl⟩
    · have e1 : a1.eval (.tmp 7) = .pointer (some ⟨R1, 1, none⟩) := hK.get 1 7 (by kernel_rfl) rfl rfl rfl
      have c1 := (hC.cell (p := ⟨R1, 1, none⟩) hR1).trans (cell_of_row w1 R1 1 _ _ (0, 0) HRB.out)
      simp only [Act.eval, Array.getD_eq_getD_getElem?] at e1
      exact ob_value (v := .int .i64 p) (w' := W) (by simp [execOp, go_sem, e1, c1]) ⟨_, rfl, hC, RG.refl _ _, rfl⟩
    · obtain ⟨G, B, e1, hT⟩ : TGR R1 w1.heap.size PP SS RR NN p DD 0 W x (a1.eval (.tmp 6)) := hK.get 0 6 (by kernel_rfl) rfl rfl rfl
      have e2 : a1.eval (.tmp 8) = .int .i64 p := hK.get 2 8 (by kernel_rfl) rfl rfl rfl
      simp only [Act.eval, Array.getD_eq_getD_getElem?] at e1 e2
      refine ob_call rfl Try.func123 (by kernel_rfl) (by kernel_rfl) (vals := #[.slice (some ⟨G, 0, none⟩) 6 6, .int .i64 p, .func (.func 125) #[] #[]]) (by simp [e1, e2, Act.eval]) ?_
      refine (HRow B G W hT).out.mono ?_
      rintro e w' ⟨rfl, hb⟩
      exact ⟨_, rfl, _, rfl, hC.trans (hb.mono hC.size), RG.below _ hb, B, rfl⟩
    · exact ob_move rfl ⟨_, rfl, hC, RG.refl _ _, hK.get 3 9 (by kernel_rfl) rfl rfl rfl⟩
    · obtain ⟨B, e1⟩ : TGR R1 w1.heap.size PP SS RR NN p DD 4 W x (a1.eval (.tmp 5)) := hK.get 4 5 (by kernel_rfl) rfl rfl rfl
      simp only [Act.eval, Array.getD_eq_getD_getElem?] at e1
      exact ob_value (v := .agg #[.int .i64 PP, .int .i64 SS, .int .i64 RR, .slice (aD B p) NN NN]) (w' := W) (by simp [execOp, go_sem, e1]) ⟨_, rfl, hC, RG.refl _ _, B, rfl⟩
    · obtain ⟨B, e1⟩ : TGR R1 w1.heap.size PP SS RR NN p DD 4 W x (a1.eval (.tmp 5)) := hK.get 4 5 (by kernel_rfl) rfl rfl rfl
      simp only [Act.eval, Array.getD_eq_getD_getElem?] at e1
      exact ob_value (v := .bool DD) (w' := W) (by simp [execOp, go_sem, e1]) ⟨_, rfl, hC, RG.refl _ _, rfl⟩
    · exact ob_value (v := .pointer (some ⟨W.heap.size, 0, none⟩)) (w' := W.alloc zeroO) (by unfold zeroO; simp [execOp, go_sem]) ⟨_, rfl, hC.alloc hC.size _, RG.below _ ((Below.refl _ _).alloc (Nat.le_refl _) _), rfl, W.heap.size, rfl, hC.size, .inl (heap_alloc_new W _)⟩
    · obtain ⟨e1, k, rfl, hlo, hk⟩ : TGR R1 w1.heap.size PP SS RR NN p DD 7 W x (a1.eval (.tmp 3)) := hK.get 7 3 (by kernel_rfl) rfl rfl rfl
      obtain ⟨B, e2⟩ : TGR R1 w1.heap.size PP SS RR NN p DD 5 W _ (a1.eval (.tmp 10)) := hK.get 5 10 (by kernel_rfl) rfl rfl rfl
      have hfin : ∀ w', w'.heap[k]? = some (.cells #[.int .i64 PP, .int .i64 SS, .int .i64 RR, .slice (aD B p) NN NN] 117 (0, 0)) → Out k (k + 1) W w' → ∃ v, a1.put none undef = a1.put none v ∧ Below w1.heap.size w1 w' ∧ RG (ansO PP SS RR NN p) W w' ∧ TGR R1 w1.heap.size PP SS RR NN p DD 8 w' (if (8 : Nat) = 7 then v else .pointer (some ⟨k, 0, none⟩)) v := fun w' hg ho => by
        refine ⟨undef, rfl, ho.below hC hlo hC.size, ⟨ho.size, fun j hj => ?_⟩, k, rfl, hlo, B, hg⟩
        by_cases hjk : j = k
        · subst hjk
          exact .inr ⟨hk, B, hg⟩
        · exact .inl (ho.block j hj (by omega))
      rcases hk with hk | ⟨B', hk⟩
      · exact ob_put_row 117 (.tmp 3) (.tmp 10) rfl k e1 _ e2 _ rfl 117 _ _ hk (by kernel_rfl) (by kernel_rfl) (by kernel_rfl) (by kernel_rfl) hfin
      · exact ob_put_row 117 (.tmp 3) (.tmp 10) rfl k e1 _ e2 _ rfl 117 _ _ hk (by kernel_rfl) (by kernel_rfl) (by kernel_rfl) (by kernel_rfl) hfin
    · exact ob_value (BigFrame.run_assign _ rfl W) ⟨_, rfl, hC, RG.refl _ _, hK.get 6 11 (by kernel_rfl) rfl rfl rfl⟩
  · intro vs W hC hT
    obtain ⟨e7, k, e7', hlo, -⟩ : TGR R1 w1.heap.size PP SS RR NN p DD 7 W (vs 7) (vs 7) := hT 7 (by decide)
    obtain ⟨k', e8, -, B, hk⟩ : TGR R1 w1.heap.size PP SS RR NN p DD 8 W (vs 7) (vs 8) := hT 8 (by decide)
    have e9 : vs 9 = .bool DD := hT 9 (by decide)
    obtain rfl : k = k' := by
      have := e7'.symm.trans e8
      simpa using this
    simp only [fillL, if_true, Act.put, List.setIfInBounds_toArray, List.set_cons_zero, List.set_cons_succ, e7', e9]
    unfold ansO at hk
    have HC := Lib.hid hC
    have HK := Lib.hid hk
    have hlt : R1 < W.heap.size := Nat.lt_of_lt_of_le hR1 hC.size
    have HR2 := Lib.hid ((hC.block R1 hR1).trans HRB.out)
    clear hC hT e7 e7' e8 e9 hk
    have l0 := (cell_of_row W R1 0 _ _ (0, 0) HR2.out)
    rcases DD with _ | _
    · have hres : RES = false := by rw [HB.out]; rfl
      go_wp2_with fail
      go_ret
      exact ⟨by rw [hres]; rfl, HL1.out.below.trans (HC.out.mono HL1.out.below.size)⟩
    go_wp2_with (refine wpList_load_one (by kernel_rfl) 2 (.tmp 14) rfl (R1) 0 rfl 120 #[.int .i64 s, .int .i64 p, .string dt] (0, 0) HR2.out (.int .i64 s) rfl _ Try.underlying2 rfl (by kernel_rfl) ?_)
    refine (from0_any s 255 _).mono ?_
    rintro e w' ⟨rfl, rfl⟩
    rcases hi : inB 0 255 s with _ | _
    · have hres : RES = false := by rw [HB.out, hi]; rfl
      go_wp2_with fail
      go_ret
      exact ⟨by rw [hres]; rfl, HL1.out.below.trans (HC.out.mono HL1.out.below.size)⟩
    have hres : RES = ((dt.size : Int) == SS) := by rw [HB.out, hi]; rfl
    clear l0 hi
    go_wp2_with (first
      | (refine wpList_load_one (by kernel_rfl) 9 (.tmp 19) rfl (R1) 2 rfl 120 #[.int .i64 s, .int .i64 p, .string dt] (0, 0) HR2.out (.string dt) rfl _ Try.underlying9 rfl (by kernel_rfl) ?_)
      | (refine wpList_load_one (by kernel_rfl) 2 (.tmp 22) rfl (k) 1 rfl 117 #[.int .i64 PP, .int .i64 SS, .int .i64 RR, .slice (aD B p) NN NN] (0, 0) HK.out (.int .i64 SS) rfl _ Try.underlying2 rfl (by kernel_rfl) ?_))
    go_ret
    exact ⟨by rw [hres]; rfl, HL1.out.below.trans (HC.out.mono HL1.out.below.size)⟩
end Go.Proofs.Ytpolpkheaibonaa
