/- Plain facts on seals: a text is got back from its seal; with any one byte turned it is refused; a CRC goes on from text to text. -/
import Derived.Test.YtmimocoeojhjjaaUnseal
import Derived.Laws.BitsAllLaws
import Derived.Laws.BitsLemmas
namespace Go.Proofs.Ytmimocoeojhjjaa
open Go.RowKit
set_option linter.unusedVariables false

theorem xor_right_cancel {a b c : Nat} (h : a ^^^ c = b ^^^ c) : a = b := by
  have := congrArg (· ^^^ c) h
  simpa [Nat.xor_assoc] using this
theorem turn_top {x : Nat} (h : R32 x) : (crcTurn x).testBit 31 = true := by
  unfold crcTurn
  rw [Nat.testBit_xor, Nat.testBit_lt_two_pow (show x / 2 < 2 ^ 31 by unfold R32 at h; omega)]
  decide
theorem half_top {x : Nat} (h : R32 x) : (x / 2).testBit 31 = false := Nat.testBit_lt_two_pow (show x / 2 < 2 ^ 31 by unfold R32 at h; omega)
theorem crcStep_inj {x y : Nat} (hx : R32 x) (hy : R32 y) (h : crcStep x = crcStep y) : x = y := by
  unfold crcStep at h
  by_cases h1 : x % 2 = 1 <;> by_cases h2 : y % 2 = 1
  · rw [if_pos h1, if_pos h2] at h
    have : x / 2 = y / 2 := xor_right_cancel h
    omega
  · rw [if_pos h1, if_neg h2] at h
    have := turn_top hx
    rw [h, half_top hy] at this
    cases this
  · rw [if_neg h1, if_pos h2] at h
    have := turn_top hy
    rw [← h, half_top hx] at this
    cases this
  · rw [if_neg h1, if_neg h2] at h
    omega
theorem crcSteps_inj (k : Nat) {x y : Nat} (hx : R32 x) (hy : R32 y) (h : crcSteps k x = crcSteps k y) : x = y := by
  induction k generalizing x y with
  | zero => exact h
  | succ k ih => exact crcStep_inj hx hy (ih hx.step hy.step h)
theorem crcByte_inj {x y : Nat} (hx : R32 x) (hy : R32 y) (b : UInt8) (h : crcByte x b = crcByte y b) : x = y :=
  xor_right_cancel (crcSteps_inj 8 (hx.xor (R32.of_byte b)) (hy.xor (R32.of_byte b)) h)
theorem crcByte_other {x : Nat} (hx : R32 x) {b c : UInt8} (h : crcByte x b = crcByte x c) : b = c := by
  have := crcSteps_inj 8 (hx.xor (R32.of_byte b)) (hx.xor (R32.of_byte c)) h
  rw [Nat.xor_comm x, Nat.xor_comm x] at this
  exact UInt8.toNat_inj.1 (xor_right_cancel this)
theorem crcList_inj (l : List UInt8) {x y : Nat} (hx : R32 x) (hy : R32 y) (h : crcList x l = crcList y l) : x = y := by
  induction l generalizing x y with
  | nil => exact h
  | cons b l ih => exact crcByte_inj hx hy b (ih (hx.byte b) (hy.byte b) h)
theorem crcList_append (x : Nat) (l m : List UInt8) : crcList x (l ++ m) = crcList (crcList x l) m := by simp [crcList, List.foldl_append]
/-- One byte turned: another register. -/
theorem crcList_set (l : List UInt8) (k : Nat) (hk : k < l.length) (c : UInt8) (hc : c ≠ l[k]) {x : Nat} (hx : R32 x) : crcList x (l.set k c) ≠ crcList x l := by
  induction l generalizing x k with
  | nil => simp at hk
  | cons b l ih =>
    cases k with
    | zero =>
      intro h
      have h' : crcList (crcByte x c) l = crcList (crcByte x b) l := h
      exact hc (crcByte_other hx (crcList_inj l (hx.byte c) (hx.byte b) h'))
    | succ k => exact ih k (by simpa using hk) (by simpa using hc) (hx.byte b)
theorem flip_flip (x : Nat) : crcFlip (crcFlip x) = x := by
  unfold crcFlip
  rw [Nat.xor_assoc, Nat.xor_self, Nat.xor_zero]
theorem crcOf_set (l : List UInt8) (k : Nat) (hk : k < l.length) (c : UInt8) (hc : c ≠ l[k]) {x : Nat} (hx : R32 x) : crcOf x (l.set k c) ≠ crcOf x l := by
  intro h
  have := congrArg crcFlip h
  simp only [crcOf, flip_flip] at this
  exact crcList_set l k hk c hc hx.flip this
theorem crcOf_append (x : Nat) (l m : List UInt8) : crcOf (crcOf x l) m = crcOf x (l ++ m) := by
  simp only [crcOf, flip_flip, crcList_append]
theorem fourB_inj {c d : Nat} (hc : R32 c) (hd : R32 d) (h : fourB c = fourB d) : c = d := by
  unfold R32 at *
  simp only [fourB, List.cons.injEq, and_true] at h
  obtain ⟨h1, h2, h3, h4⟩ := h
  have e : ∀ n : Nat, n < 256 → (UInt8.ofNat n).toNat = n := fun n hn => by simp; omega
  have k1 := congrArg UInt8.toNat h1
  have k2 := congrArg UInt8.toNat h2
  have k3 := congrArg UInt8.toNat h3
  have k4 := congrArg UInt8.toNat h4
  rw [e _ (by omega), e _ (by omega)] at k1 k2 k3 k4
  omega

/-- A text l and four bytes f behind it, taken apart. -/
theorem sealed_sum (l f : List UInt8) (hf : f.length = 4) : sumB ⟨(l ++ f).toArray⟩ = fourB (crcOf 0 l) := by
  unfold sumB
  have e : (ByteArray.mk (l ++ f).toArray).size - 4 = l.length := by show (l ++ f).toArray.size - 4 = _; simp [hf]
  rw [e]
  simp
theorem sealed_end (l f : List UInt8) (hf : f.length = 4) : endB ⟨(l ++ f).toArray⟩ = f := by
  unfold endB
  have e : (ByteArray.mk (l ++ f).toArray).size = l.length + 4 := by show (l ++ f).toArray.size = _; simp [hf]
  rw [ByteArray.toList_eq, e]
  simp
  exact List.take_of_length_le (by omega)
theorem unseal_good (l f : List UInt8) (hf : f.length = 4) (hl : l.length ≤ 7996) (h : f = fourB (crcOf 0 l)) : unsealC ⟨(l ++ f).toArray⟩ = 0 ∧ unsealT ⟨(l ++ f).toArray⟩ = l := by
  have e : (ByteArray.mk (l ++ f).toArray).size = l.length + 4 := by show (l ++ f).toArray.size = _; simp [hf]
  unfold unsealC unsealT
  rw [sealed_sum l f hf, sealed_end l f hf, e]
  rw [if_neg (by omega), if_neg (by omega), if_pos h.symm, if_neg (by omega), if_neg (by omega), if_pos h.symm]
  simp
theorem unseal_bad (l f : List UInt8) (hf : f.length = 4) (hl : l.length ≤ 7996) (h : f ≠ fourB (crcOf 0 l)) : unsealC ⟨(l ++ f).toArray⟩ = 5 := by
  have e : (ByteArray.mk (l ++ f).toArray).size = l.length + 4 := by show (l ++ f).toArray.size = _; simp [hf]
  unfold unsealC
  rw [sealed_sum l f hf, sealed_end l f hf, e, if_neg (by omega), if_neg (by omega), if_neg (fun h' => h h'.symm)]
/-- With one byte of a sealed text turned it is refused. -/
theorem unseal_turned (l : List UInt8) (hl : l.length ≤ 7996) (k : Nat) (hk : k < (l ++ fourB (crcOf 0 l)).length) (c : UInt8) (hc : c ≠ (l ++ fourB (crcOf 0 l))[k]) :
    unsealC ⟨((l ++ fourB (crcOf 0 l)).set k c).toArray⟩ = 5 := by
  have h0 : R32 0 := show 0 < 4294967296 by omega
  rcases Nat.lt_or_ge k l.length with h | h
  · rw [List.set_append_left _ _ h]
    refine unseal_bad _ _ rfl (by simpa using hl) fun e => ?_
    have hne : c ≠ l[k] := by rwa [List.getElem_append_left h] at hc
    exact crcOf_set l k h c hne h0 (fourB_inj (R32.crc0 _) (R32.crc0 _) e.symm)
  · rw [List.set_append_right _ _ h]
    have hk4 : k - l.length < (fourB (crcOf 0 l)).length := by simp at hk; omega
    refine unseal_bad l _ (by simp [fourB_len]) hl fun e => ?_
    have hne : c ≠ (fourB (crcOf 0 l))[k - l.length] := by rwa [List.getElem_append_right h] at hc
    have := congrArg (fun z => z[k - l.length]?) e
    simp [List.getElem?_set, List.getElem?_eq_getElem hk4] at this
    exact hne this.2
/-- A CRC goes on from text to text. -/
theorem crcMore_join (t k : List UInt8) (h : t.length + k.length ≤ 8000) : crcMoreI (crcMoreI 0 ⟨t.toArray⟩) ⟨k.toArray⟩ = crcMoreI 0 (⟨t.toArray⟩ ++ ⟨k.toArray⟩) := by
  have h0 : R32 0 := show 0 < 4294967296 by omega
  have e1 : (ByteArray.mk t.toArray).size = t.length := by show t.toArray.size = _; simp
  have e2 : (ByteArray.mk k.toArray).size = k.length := by show k.toArray.size = _; simp
  have e3 : (ByteArray.mk (t ++ k).toArray).size = t.length + k.length := by show (t ++ k).toArray.size = _; simp
  have hi := (R32.crc0 t).int
  have e4 : crcMoreI 0 ⟨t.toArray⟩ = (crcOf 0 t : Nat) := by
    unfold crcMoreI
    rw [e1, if_neg (by omega)]
    rfl
  rw [e4, ByteArray.mk_append_mk]
  unfold crcMoreI
  rw [e2, e3, if_neg (by omega), if_neg (by omega)]
  have := crcOf_append 0 t k
  simp [this]
/-- A byte with a number of 1 to 255 laid over it: another byte. -/
theorem turned_byte (b : UInt8) (d : Int) (h0 : 0 ≤ d) (h1 : d < 255 ∨ d = 0) : ∃ c : UInt8, IntKind.i64.wrap (1 + d) = 1 + d ∧ IntKind.u8.wrap (1 + d) = 1 + d ∧ bits .xor .u8 (b.toNat : Int) (1 + d) = (c.toNat : Int) ∧ c ≠ b := by
  obtain ⟨n, rfl⟩ := Int.eq_ofNat_of_zero_le h0
  have hb : b.toNat < 256 := b.toNat_lt
  have hn : 1 + n < 256 := by omega
  have hx : b.toNat ^^^ (1 + n) < 2 ^ 8 := Nat.xor_lt_two_pow (by omega) (by omega)
  have hu : ∀ x, x < 2 ^ 8 → (UInt8.ofNat x).toNat = x := fun x hx => by simp; omega
  refine ⟨UInt8.ofNat (b.toNat ^^^ (1 + n)), by rw [IntKind.wrap_i64]; omega, by rw [IntKind.wrap_u8]; omega, ?_, fun e => ?_⟩
  · rw [show (1 + (n : Int)) = ((1 + n : Nat) : Int) by omega, u8_xor_nat b.toNat (1 + n) hb hn, hu _ hx]
  · have e' := congrArg UInt8.toNat e
    rw [hu _ hx] at e'
    have := congrArg (b.toNat ^^^ ·) e'
    simp [← Nat.xor_assoc] at this
end Go.Proofs.Ytmimocoeojhjjaa
