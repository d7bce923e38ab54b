/- What the model's GetNum answers: the number that stands at a place, the place behind it, or a code. For every text and every place; nothing that was there is written. -/
import Derived.Test.YteempfbcjlbcnaaDoorOwn
import Derived.Handy
namespace Go.Proofs.YteempfbcjlbcnaaDoor
open Go.RowKit
set_option linter.unusedVariables false

/-- A number, a place and a code, as a value. -/
def numOut (n a c : Int) : Value := .agg #[.int .i64 n, .int .i64 a, .int .i64 c]
/-- What a byte's seven low bits add at place i of a number. -/
def addAt (c : Int) (i : Nat) : Int := c % 128 * 2 ^ (7 * i)
/-- x is made of i bytes. -/
def Made (i : Nat) (x : Int) : Prop := 0 ≤ x ∧ x < 2 ^ (7 * i)
theorem Made.zero : Made 0 0 := ⟨by omega, by simp⟩
theorem pow7 (i : Nat) (h : i ≤ 9) : (2 : Int) ^ (7 * i) = 1 ∨ (2 : Int) ^ (7 * i) = 128 ∨ (2 : Int) ^ (7 * i) = 16384 ∨ (2 : Int) ^ (7 * i) = 2097152 ∨ (2 : Int) ^ (7 * i) = 268435456 ∨ (2 : Int) ^ (7 * i) = 34359738368 ∨ (2 : Int) ^ (7 * i) = 4398046511104 ∨ (2 : Int) ^ (7 * i) = 562949953421312 ∨ (2 : Int) ^ (7 * i) = 72057594037927936 ∨ (i = 9 ∧ (2 : Int) ^ (7 * i) = 9223372036854775808) := by
  rcases (show i = 0 ∨ i = 1 ∨ i = 2 ∨ i = 3 ∨ i = 4 ∨ i = 5 ∨ i = 6 ∨ i = 7 ∨ i = 8 ∨ i = 9 by omega) with rfl | rfl | rfl | rfl | rfl | rfl | rfl | rfl | rfl | rfl <;> simp
theorem addAt_facts {i : Nat} {x c : Int} (hm : Made i x) (h0 : 0 ≤ c) (h1 : c ≤ 255) (hi : i ≤ 9) (h9 : i = 9 → c ≤ 1) :
    0 ≤ addAt c i ∧ x + addAt c i ≤ 18446744073709551615 ∧ IntKind.u64.wrap (c % 128 * 2 ^ (7 * i)) = addAt c i := by
  obtain ⟨hm0, hm1⟩ := hm
  unfold addAt
  have hw : ∀ n : Int, IntKind.u64.wrap n = n % 18446744073709551616 := fun n => by simp [IntKind.wrap, IntKind.bits, IntKind.signed]
  rw [hw]
  rcases pow7 i hi with h | h | h | h | h | h | h | h | h | ⟨h9', h⟩ <;> rw [h] at hm1 ⊢
  all_goals first | (have := h9 h9'; omega) | omega
theorem Made.next {i : Nat} {x c : Int} (hm : Made i x) (h0 : 0 ≤ c) : Made (i + 1) (x + addAt c i) := by
  obtain ⟨hm0, hm1⟩ := hm
  unfold addAt
  have e : (2 : Int) ^ (7 * (i + 1)) = 128 * 2 ^ (7 * i) := by
    rw [show 7 * (i + 1) = 7 * i + 7 by omega, Int.pow_add]
    omega
  have hp : (0 : Int) < 2 ^ (7 * i) := Int.pow_pos (by omega)
  have hc : 0 ≤ c % 128 ∧ c % 128 ≤ 127 := by omega
  refine ⟨?_, ?_⟩
  · have := Int.mul_nonneg hc.1 (Int.le_of_lt hp)
    omega
  · rw [e]
    have := Int.mul_le_mul_of_nonneg_right hc.2 (Int.le_of_lt hp)
    omega

/-- The number that was folded. -/
def unfoldI (u : Int) : Int := if u % 2 = 1 then -(u / 2) - 1 else u / 2
/-- The number from place p on: i bytes are read, they make x; f more may be. -/
def getF (s : ByteArray) (p : Nat) : Nat → Nat → Int → Int × Int × Int
  | 0, _, _ => (0, 0, 3)
  | f + 1, i, x =>
    if s.size ≤ p + i then (0, 0, 4)
    else if i = 9 ∧ 1 < byteAt s (p + i) then (0, 0, 3)
    else if byteAt s (p + i) < 128 then
      if byteAt s (p + i) = 0 ∧ 0 < i then (0, 0, 3) else (unfoldI (x + addAt (byteAt s (p + i)) i), (p : Int) + i + 1, 0)
    else getF s p f (i + 1) (x + addAt (byteAt s (p + i)) i)
def getNumR (s : ByteArray) (a : Int) : Int × Int × Int := if 8000 < s.size then (0, 0, 2) else if a < 0 then (0, 0, 1) else getF s a.toNat 10 0 0

/-- A reading tells a number and a place, or zeros and a code. -/
theorem getF_two (s : ByteArray) (p : Nat) : ∀ (f i : Nat) (x : Int), (∃ n a, getF s p f i x = (n, a, 0)) ∨ ∃ c, 1 ≤ c ∧ getF s p f i x = (0, 0, c) := by
  intro f
  induction f with
  | zero => intro i x; exact .inr ⟨3, by omega, rfl⟩
  | succ f ih =>
    intro i x
    rw [getF]
    split
    · exact .inr ⟨4, by omega, rfl⟩
    split
    · exact .inr ⟨3, by omega, rfl⟩
    split
    · split
      · exact .inr ⟨3, by omega, rfl⟩
      · exact .inl ⟨_, _, rfl⟩
    · exact ih _ _
theorem getF_end (s : ByteArray) (p : Nat) (h : s.size ≤ p) : getF s p 10 0 0 = (0, 0, 4) := by rw [getF, if_pos (by omega)]


end Go.Proofs.YteempfbcjlbcnaaDoor
