/- Plain facts on numbers in bytes: a number is got back from its bytes, with the place behind it; of bytes that end too early nothing is got; the same for texts. -/
import Derived.Test.YteempfbcjlbcnaaDoorGetText
import Derived.Test.YteempfbcjlbcnaaDoorText
namespace Go.Proofs.YteempfbcjlbcnaaDoor
open Go.RowKit
set_option linter.unusedVariables false

theorem unfold_fold (n : Int) : unfoldI (foldI n) = n := by
  unfold unfoldI foldI
  split <;> split <;> omega
theorem byteI_nat {u : Int} (h0 : 0 ≤ u) (h1 : u < 256) : ((byteI u).toNat : Int) = u := by
  unfold byteI
  simp
  omega
/-- From place q on the text s has the bytes l. -/
def Has (s : ByteArray) (q : Nat) (l : List UInt8) : Prop := ∀ k (h : k < l.length), q + k < s.size ∧ byteAt s (q + k) = (l[k].toNat : Int)
theorem Has.head {s : ByteArray} {q : Nat} {b : UInt8} {l : List UInt8} (h : Has s q (b :: l)) : q < s.size ∧ byteAt s q = (b.toNat : Int) := by
  have := h 0 (by simp)
  simpa using this
theorem Has.tail {s : ByteArray} {q : Nat} {b : UInt8} {l : List UInt8} (h : Has s q (b :: l)) : Has s (q + 1) l := by
  intro k hk
  have := h (k + 1) (by simpa using hk)
  rw [show q + 1 + k = q + (k + 1) by omega]
  simpa using this
theorem has_mid (a l z : List UInt8) : Has ⟨(a ++ l ++ z).toArray⟩ a.length l := by
  intro k hk
  have e : (ByteArray.mk (a ++ l ++ z).toArray).size = a.length + l.length + z.length := by show (a ++ l ++ z).toArray.size = _; simp; omega
  refine ⟨by rw [e]; omega, ?_⟩
  unfold byteAt
  simp [List.getElem?_append, hk, show ¬ (a.length + k < a.length) by omega]
theorem pow7_next (i : Nat) : (2 : Int) ^ (7 * (i + 1)) = 2 ^ (7 * i) * 128 := by
  rw [show 7 * (i + 1) = 7 * i + 7 by omega, Int.pow_add]
  rfl

theorem getF_enc (s : ByteArray) (p : Nat) (f : Nat) : ∀ (i : Nat) (u x : Int), i + f = 9 → 0 ≤ u → u < 2 * 128 ^ f → (i = 0 ∨ 1 ≤ u) → Has s (p + i) (encF f u) →
    getF s p (f + 1) i x = (unfoldI (x + u * 2 ^ (7 * i)), ((p + i + (encF f u).length : Nat) : Int), 0) := by
  induction f with
  | zero =>
    intro i u x hi h0 h1 hp hh
    have hu : u < 2 := by simpa using h1
    obtain ⟨hs, hb⟩ := Has.head hh
    rw [byteI_nat h0 (by omega)] at hb
    rw [getF, hb, if_neg (by omega), if_neg (by omega), if_pos (by omega), if_neg (by omega)]
    unfold addAt
    rw [Int.emod_eq_of_lt h0 (by omega)]
    simp [encF]
  | succ f ih =>
    intro i u x hi h0 h1 hp hh
    by_cases hu : u < 128
    · rw [encF_small _ _ hu] at hh ⊢
      obtain ⟨hs, hb⟩ := Has.head hh
      rw [byteI_nat h0 (by omega)] at hb
      rw [getF, hb, if_neg (by omega), if_neg (by omega), if_pos (by omega), if_neg (by omega)]
      unfold addAt
      rw [Int.emod_eq_of_lt h0 (by omega)]
      simp
    · rw [encF_big _ _ (by omega)] at hh ⊢
      obtain ⟨hs, hb⟩ := Has.head hh
      rw [byteI_nat (by omega) (by omega)] at hb
      rw [getF, hb, if_neg (by omega), if_neg (by omega), if_neg (by omega)]
      have h2 : u / 128 < 2 * 128 ^ f := by
        rw [Int.pow_succ] at h1
        generalize (128 : Int) ^ f = q at *
        omega
      rw [ih (i + 1) (u / 128) _ (by omega) (by omega) h2 (by omega) (by have := Has.tail hh; rwa [show p + i + 1 = p + (i + 1) by omega] at this)]
      have e : x + addAt (u % 128 + 128) i + u / 128 * 2 ^ (7 * (i + 1)) = x + u * 2 ^ (7 * i) := by
        unfold addAt
        rw [pow7_next, show (u % 128 + 128) % 128 = u % 128 by omega]
        generalize (2 : Int) ^ (7 * i) = q
        have hq : u * q = (u / 128 * 128 + u % 128) * q := by rw [show u / 128 * 128 + u % 128 = u by omega]
        rw [hq, Int.add_mul, Int.add_assoc, Int.mul_assoc (u / 128) 128 q, Int.mul_comm 128 q]
        omega
      rw [e]
      simp only [List.length_cons]
      rw [show p + (i + 1) + (encF f (u / 128)).length = p + i + ((encF f (u / 128)).length + 1) by omega]

theorem getF_short (s : ByteArray) (p : Nat) (f : Nat) : ∀ (i : Nat) (u x : Int), i + f = 9 → 0 ≤ u → Has s (p + i) (encF f u).dropLast → s.size = p + i + (encF f u).dropLast.length → getF s p (f + 1) i x = (0, 0, 4) := by
  induction f with
  | zero =>
    intro i u x hi h0 hh hs
    simp [encF] at hs
    rw [getF, if_pos (by omega)]
  | succ f ih =>
    intro i u x hi h0 hh hs
    by_cases hu : u < 128
    · rw [encF_small _ _ hu] at hs
      simp at hs
      rw [getF, if_pos (by omega)]
    · rw [encF_big _ _ (by omega)] at hh hs
      have hne : encF f (u / 128) ≠ [] := by have := encF_pos f (u / 128); intro e; simp [e] at this
      rw [List.dropLast_cons_of_ne_nil hne] at hh hs
      obtain ⟨hs1, hb⟩ := Has.head hh
      rw [byteI_nat (by omega) (by omega)] at hb
      rw [getF, hb, if_neg (by omega), if_neg (by omega), if_neg (by omega)]
      refine ih (i + 1) (u / 128) _ (by omega) (by omega) ?_ ?_
      · have := Has.tail hh
        rwa [show p + i + 1 = p + (i + 1) by omega] at this
      · simp at hs
        simp
        omega

/-- A number stands at its place: it is got back, with the place behind it. -/
theorem getNum_back (a z : List UInt8) (n : Int) (h0 : -9223372036854775808 ≤ n) (h1 : n ≤ 9223372036854775807) (hl : a.length + (numBytes n).length + z.length ≤ 8000) :
    getNumR ⟨(a ++ numBytes n ++ z).toArray⟩ a.length = (n, ((a.length + (numBytes n).length : Nat) : Int), 0) := by
  have e : (ByteArray.mk (a ++ numBytes n ++ z).toArray).size = a.length + (numBytes n).length + z.length := by show (a ++ numBytes n ++ z).toArray.size = _; simp; omega
  have hn := numBytes_len n
  unfold getNumR
  rw [e, if_neg (by omega), if_neg (by omega)]
  have hf := foldI_hi n h0 h1
  have := getF_enc ⟨(a ++ numBytes n ++ z).toArray⟩ a.length 9 0 (foldI n) 0 rfl (foldI_lo n) (by omega) (.inl rfl) (has_mid a (numBytes n) z)
  rw [show (a.length : Int).toNat = a.length by omega]
  rw [this]
  simp [unfold_fold, numBytes]
theorem getNum_short (n : Int) : getNumR ⟨(numBytes n).dropLast.toArray⟩ 0 = (0, 0, 4) := by
  have e : (ByteArray.mk (numBytes n).dropLast.toArray).size = (numBytes n).dropLast.length := by show (numBytes n).dropLast.toArray.size = _; simp
  have hn := numBytes_len n
  unfold getNumR
  rw [e, if_neg (by simp; omega), if_neg (by omega)]
  have hh := has_mid [] (numBytes n).dropLast []
  simp at hh
  exact getF_short _ 0 9 0 (foldI n) 0 rfl (foldI_lo n) (by simpa [numBytes] using hh) (by rw [e]; simp [numBytes])
theorem putTextB_eq (u : List UInt8) (h : u.length ≤ 8000) : putTextB ⟨u.toArray⟩ = numBytes (u.length : Int) ++ u := by
  have e : (ByteArray.mk u.toArray).size = u.length := by show u.toArray.size = _; simp
  unfold putTextB
  rw [e, if_neg (by omega)]
/-- A text stands at its place: it is got back, with the place behind it. -/
theorem getText_back (c : UInt8) (u : List UInt8) (hl : (numBytes (u.length : Int) ++ u).length + 1 ≤ 8000) :
    textR ⟨(c :: (numBytes (u.length : Int) ++ u)).toArray⟩ (getNumR ⟨(c :: (numBytes (u.length : Int) ++ u)).toArray⟩ 1) = (u, (((numBytes (u.length : Int) ++ u).length + 1 : Nat) : Int), 0) := by
  have hn := numBytes_len (u.length : Int)
  have e : (ByteArray.mk (c :: (numBytes (u.length : Int) ++ u)).toArray).size = 1 + (numBytes (u.length : Int)).length + u.length := by show (c :: (numBytes (u.length : Int) ++ u)).toArray.size = _; simp; omega
  have hg : getNumR ⟨(c :: (numBytes (u.length : Int) ++ u)).toArray⟩ 1 = ((u.length : Int), ((1 + (numBytes (u.length : Int)).length : Nat) : Int), 0) := by
    unfold getNumR
    simp at hl
    rw [e, if_neg (by omega), if_neg (by omega)]
    have hf := foldI_hi (u.length : Int) (by omega) (by omega)
    have hh := has_mid [c] (numBytes (u.length : Int)) u
    have := getF_enc ⟨(c :: (numBytes (u.length : Int) ++ u)).toArray⟩ 1 9 0 (foldI u.length) 0 rfl (foldI_lo _) (by omega) (.inl rfl) (by simpa [numBytes] using hh)
    rw [show (1 : Int).toNat = 1 from rfl, this]
    simp [unfold_fold, numBytes]
  rw [hg]
  simp at hl
  unfold textR
  rw [e, if_neg (by simp), if_neg (by simp; omega), if_neg (by simp)]
  simp only [Prod.mk.injEq, and_true]
  refine ⟨?_, by simp; omega⟩
  simp [ByteArray.data_extract]
  rw [show (1 + ((numBytes (u.length : Int)).length : Int)).toNat = (numBytes (u.length : Int)).length + 1 by omega,
    show (1 + ((numBytes (u.length : Int)).length : Int) + (u.length : Int)).toNat = (numBytes (u.length : Int)).length + 1 + u.length by omega]
  simp
/-- Of a text without its last byte nothing is got. -/
theorem getText_short (u : List UInt8) (hl : (numBytes (u.length : Int) ++ u).length + 1 ≤ 8000) :
    textR ⟨(numBytes (u.length : Int) ++ u).dropLast.toArray⟩ (getNumR ⟨(numBytes (u.length : Int) ++ u).dropLast.toArray⟩ 0) = ([], 0, 4) := by
  have hn := numBytes_len (u.length : Int)
  rcases List.eq_nil_or_concat u with rfl | ⟨v, c, rfl⟩
  · rw [List.append_nil, getNum_short]
    rfl
  · have hv : (v.concat c).length = v.length + 1 := by simp
    rw [hv]
    rw [hv] at hn hl
    have hd : (numBytes ((v.length + 1 : Nat) : Int) ++ v.concat c).dropLast = numBytes ((v.length + 1 : Nat) : Int) ++ v := by
      rw [List.concat_eq_append, ← List.append_assoc, List.dropLast_concat]
    rw [hd]
    have hs : (ByteArray.mk (numBytes ((v.length + 1 : Nat) : Int) ++ v).toArray).size = (numBytes ((v.length + 1 : Nat) : Int)).length + v.length := by show (numBytes ((v.length + 1 : Nat) : Int) ++ v).toArray.size = _; simp
    rw [List.length_append, hv] at hl
    have := getNum_back [] v ((v.length + 1 : Nat) : Int) (by omega) (by omega) (by simp only [List.length_nil, Nat.zero_add]; omega)
    simp only [List.nil_append, List.length_nil, Nat.zero_add] at this
    rw [show ((0 : Nat) : Int) = 0 from rfl] at this
    rw [this]
    generalize numBytes ((v.length + 1 : Nat) : Int) = L at *
    unfold textR
    rw [hs, if_neg (by simp), if_neg (by simp; omega), if_pos (by simp; omega)]
end Go.Proofs.YteempfbcjlbcnaaDoor
