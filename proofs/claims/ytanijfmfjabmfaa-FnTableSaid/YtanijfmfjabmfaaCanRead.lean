/- The Can of a text: the program's and the model's. For every text; nothing that was there is written. -/
import Derived.Test.YtanijfmfjabmfaaCan
import Derived.Test.YtanijfmfjabmfaaLong
import Derived.Test.YtanijfmfjabmfaaConv
namespace Go.Proofs.Ytanijfmfjabmfaa
open Go.RowKit
set_option linter.unusedVariables false

/-- The number of a text's first four bytes. -/
def be4 (t : ByteArray) : Int := 256 * (256 * (256 * byteAt t 0 + byteAt t 1) + byteAt t 2) + byteAt t 3
/-- What stands behind the first five bytes. -/
def tail5 (t : ByteArray) : ByteArray := t.extract 5 t.size
/-- Those are the bytes of a Can. -/
def readB (t : ByteArray) : Bool := canB (be4 t) (tail5 t) && decide (byteAt t 4 = (tail5 t).size)
/-- A Can and a code, as a value. -/
def canOutV (n : Int) (s : ByteArray) (c : Int) : Value := .agg #[.int .i64 n, .string s, .int .i64 c]
/-- What CanRead answers. -/
def canReadV (t : ByteArray) : Value := if 8000 < t.size then canOutV 0 ⟨#[]⟩ 2 else if t.size < 5 then canOutV 0 ⟨#[]⟩ 4 else if readB t = true then canOutV (be4 t) (tail5 t) 0 else canOutV 0 ⟨#[]⟩ 3

theorem five {t : ByteArray} (h : 5 ≤ t.size) : ∃ a0 a1 a2 a3 a4 r, t = ⟨(a0 :: a1 :: a2 :: a3 :: a4 :: r).toArray⟩ := by
  obtain ⟨⟨l⟩⟩ := t
  have hl : 5 ≤ l.length := h
  match l, hl with
  | a0 :: a1 :: a2 :: a3 :: a4 :: r, _ => exact ⟨a0, a1, a2, a3, a4, r, rfl⟩
theorem tail5_mk (a0 a1 a2 a3 a4 : UInt8) (r : List UInt8) : tail5 ⟨(a0 :: a1 :: a2 :: a3 :: a4 :: r).toArray⟩ = ⟨r.toArray⟩ := by
  unfold tail5
  apply ByteArray.ext
  simp only [ByteArray.data_extract]
  apply Array.toList_inj.1
  simp [ByteArray.size]
theorem be4_lo (t : ByteArray) : 0 ≤ be4 t := by
  unfold be4
  have h0 := byteAt_lo t 0
  have h1 := byteAt_lo t 1
  have h2 := byteAt_lo t 2
  have h3 := byteAt_lo t 3
  omega
theorem be4_hi (t : ByteArray) : be4 t ≤ 4294967295 := by
  unfold be4
  have h0 := byteAt_hi t 0
  have h1 := byteAt_hi t 1
  have h2 := byteAt_hi t 2
  have h3 := byteAt_hi t 3
  omega
theorem u8_of_int (b : UInt8) (n : Int) (h : n = (b.toNat : Int)) : UInt8.ofNat n.toNat = b := by
  subst h
  simp
theorem headB_be4 {t : ByteArray} {a0 a1 a2 a3 : UInt8} (k : Nat) (h0 : byteAt t 0 = a0.toNat) (h1 : byteAt t 1 = a1.toNat) (h2 : byteAt t 2 = a2.toNat) (h3 : byteAt t 3 = a3.toNat) : headB (be4 t) k = [a0, a1, a2, a3, UInt8.ofNat k] := by
  unfold headB be4
  rw [h0, h1, h2, h3]
  have b0 := a0.toNat_lt
  have b1 := a1.toNat_lt
  have b2 := a2.toNat_lt
  have b3 := a3.toNat_lt
  rw [u8_of_int a0 _ (by omega), u8_of_int a1 _ (by omega), u8_of_int a2 _ (by omega), u8_of_int a3 _ (by omega)]
theorem readB_iff {t : ByteArray} (h : 5 ≤ t.size) : readB t = true ↔ ByteArray.mk (canBytesB (be4 t) (tail5 t)).toArray = t := by
  obtain ⟨a0, a1, a2, a3, a4, r, e⟩ := five h
  have hd : tail5 t = ⟨r.toArray⟩ := by rw [e, tail5_mk]
  have h0 : byteAt t 0 = a0.toNat := by rw [e]; rfl
  have h1 : byteAt t 1 = a1.toNat := by rw [e]; rfl
  have h2 : byteAt t 2 = a2.toNat := by rw [e]; rfl
  have h3 : byteAt t 3 = a3.toNat := by rw [e]; rfl
  have h4 : byteAt t 4 = a4.toNat := by rw [e]; rfl
  unfold readB canBytesB
  rw [hd, h4]
  rcases hc : canB (be4 t) ⟨r.toArray⟩
  · simp
    rw [e]
    intro q
    have := congrArg (fun x => x.data.toList) q
    simp at this
  · have hs := (canB_of hc).2
    rw [if_pos rfl, headB_be4 _ h0 h1 h2 h3]
    have hs' : (ByteArray.mk r.toArray).size = r.length := by simp [ByteArray.size]
    rw [hs'] at hs ⊢
    simp only [Bool.true_and, decide_eq_true_eq]
    constructor
    · intro q
      rw [e]
      have : UInt8.ofNat r.length = a4 := by
        have : r.length = a4.toNat := by omega
        rw [this]
        simp
      simp [this]
    · intro q
      rw [e] at q
      have q' := congrArg (fun x => x.data.toList) q
      simp at q'
      rw [← q']
      simp
      omega

theorem eq_readB {t : ByteArray} (h : 5 ≤ t.size) : (canBytesB (be4 t) (tail5 t) == t.toList) = readB t := by
  have hi := readB_iff h
  have e : t.toList = t.data.toList := by
    obtain ⟨⟨r⟩⟩ := t
    simp
  rw [e]
  rcases hr : readB t
  · rw [beq_eq_false_iff_ne]
    intro q
    have := hi.2 (by rw [q])
    rw [hr] at this
    cases this
  · have := hi.1 hr
    rw [beq_iff_eq]
    have := congrArg (fun x => x.data.toList) this
    simpa using this

end Go.Proofs.Ytanijfmfjabmfaa
