/- What a frame is about comes back from its number, and a frame from its bytes: plain facts on numbers and bytes. -/
import Derived.Test.YtdodjkocdaghaaaCanRead
import Derived.Test.YtdodjkocdaghaaaFirst
namespace Go.Proofs.Ytdodjkocdaghaaa
open Go.RowKit
set_option linter.unusedVariables false

theorem idN_pos {a b d s : Int} (h : 0 ≤ idN a b d s) : idB a b d s = true := by
  unfold idN at h
  split at h
  · assumption
  · omega
theorem idOf_back {a b d s : Int} (h : idB a b d s = true) : idOfV (idN a b d s) = .agg #[.int .i64 a, .int .i64 b, .int .i64 d, .int .i64 s, .int .i64 0] := by
  obtain ⟨h1, h2, h3, h4⟩ := idB_of h
  have hN : idN a b d s = 67108864 * a + 256 * (if wideB b = true then b else b + d) + s := by unfold idN; rw [if_pos h]
  rcases h4 with ⟨h4, rfl⟩ | ⟨h4, h5, h6⟩
  · rw [if_pos h4] at hN
    have e0 : idN a b 255 s / 67108864 = a := by omega
    have e1 : idN a b 255 s % 67108864 / 256 = b := by omega
    have e2 : idN a b 255 s % 256 = s := by omega
    have ho : ofB (idN a b 255 s) = true := (ofB_iff _).2 (by omega)
    unfold idOfV
    rw [if_pos ho]
    unfold pG pD
    rw [e0, e1, e2, if_pos h4, if_pos h4]
    rfl
  · rw [if_neg (by rw [h4]; simp)] at hN
    have e0 : idN a b d s / 67108864 = a := by omega
    have e1 : idN a b d s % 67108864 / 256 = b + d := by omega
    have e2 : idN a b d s % 256 = s := by omega
    have ho : ofB (idN a b d s) = true := (ofB_iff _).2 (by omega)
    have hw := (wideB_not _).1 h4
    have h7 : wideB (b + d) = false := (wideB_not _).2 (by omega)
    unfold idOfV
    rw [if_pos ho]
    unfold pG pD
    rw [e0, e1, e2, if_neg (by rw [h7]; simp), if_neg (by rw [h7]; simp)]
    rw [show b + d - (b + d) % 256 = b by omega, show (b + d) % 256 = d by omega]
    rfl
theorem idNum_back {n ya yb yd ys yc : Int} (h : idOfV n = .agg #[.int .i64 ya, .int .i64 yb, .int .i64 yd, .int .i64 ys, .int .i64 yc]) (hc : yc = 0) : idN ya yb yd ys = n := by
  unfold idOfV idOutV at h
  rcases ho : ofB n
  · rw [if_neg (by rw [ho]; simp)] at h
    simp at h
    omega
  · rw [if_pos ho] at h
    simp at h
    obtain ⟨rfl, rfl, rfl, rfl, _⟩ := h
    exact idN_part ho
theorem canBytes_yes {n : Int} {s : ByteArray} (h : canBytesB n s ≠ []) : canB n s = true := by
  unfold canBytesB at h
  split at h
  · assumption
  · exact absurd rfl h
theorem byte_int {x : Int} (h0 : 0 ≤ x) (h1 : x ≤ 255) : ((UInt8.ofNat x.toNat).toNat : Int) = x := by
  have : (UInt8.ofNat x.toNat).toNat = x.toNat % 256 := by simp
  omega
theorem read_back {n : Int} {s : ByteArray} (h : canB n s = true) : canReadV ⟨(canBytesB n s).toArray⟩ = .agg #[.int .i64 n, .string s, .int .i64 0] := by
  obtain ⟨ho, hs⟩ := canB_of h
  rw [ofB_iff] at ho
  have hb : canBytesB n s = headB n s.size ++ s.data.toList := by unfold canBytesB; rw [if_pos h]
  obtain ⟨t, ht⟩ : ∃ t : ByteArray, t = ⟨(canBytesB n s).toArray⟩ := ⟨_, rfl⟩
  rw [← ht]
  rw [hb] at ht
  have hd : tail5 t = s := by
    rw [ht]
    unfold headB
    simp only [List.cons_append, List.nil_append]
    rw [tail5_mk]
  have b0 : byteAt t 0 = n / 16777216 := by rw [ht]; exact byte_int (by omega) (by omega)
  have b1 : byteAt t 1 = n / 65536 % 256 := by rw [ht]; exact byte_int (by omega) (by omega)
  have b2 : byteAt t 2 = n / 256 % 256 := by rw [ht]; exact byte_int (by omega) (by omega)
  have b3 : byteAt t 3 = n % 256 := by rw [ht]; exact byte_int (by omega) (by omega)
  have b4 : byteAt t 4 = (s.size : Int) := by
    rw [ht]
    exact byte_int (x := (s.size : Int)) (by omega) (by omega)
  have he : be4 t = n := by
    unfold be4
    rw [b0, b1, b2, b3]
    omega
  have hsz : t.size = 5 + s.size := by
    rw [ht]
    show (headB n s.size ++ s.data.toList).toArray.size = _
    rw [List.size_toArray, List.length_append, show (headB n s.size).length = 5 from rfl, Array.length_toList]
    rfl
  have hr : readB t = true := by
    unfold readB
    rw [he, hd, b4, h]
    simp
  unfold canReadV
  rw [if_neg (by omega), if_neg (by omega), if_pos hr, he, hd]
  rfl
theorem read_fwd {t : ByteArray} {zn zc : Int} {zs : ByteArray} (h : canReadV t = .agg #[.int .i64 zn, .string zs, .int .i64 zc]) (hc : zc = 0) :
    ByteArray.mk (canBytesB zn zs).toArray = t ∧ (0 ≤ zn ∧ zn ≤ 4294967295) ∧ zs.size ≤ t.size := by
  unfold canReadV canOutV at h
  split at h
  · simp at h; omega
  split at h
  · simp at h; omega
  split at h
  · rename_i h1 h2 h3
    simp at h
    obtain ⟨rfl, rfl, _⟩ := h
    exact ⟨(readB_iff (by omega)).1 h3, ⟨be4_lo t, be4_hi t⟩, by unfold tail5; simp⟩
  · simp at h; omega
/-- Of several the first one of the least number. -/
theorem first_least {l : List (Int × ByteArray)} {f : Int} (h : firstI l = f) (hf : 0 ≤ f) : ∃ m : Nat, f = m ∧ m < l.length ∧ (∀ j, j < l.length → (canAt l m).1 ≤ (canAt l j).1) ∧ ∀ j, j < m → (canAt l m).1 < (canAt l j).1 := by
  unfold firstI at h
  split at h
  · omega
  · rename_i h1
    have hl : 0 < l.length := by
      rcases Nat.eq_zero_or_pos l.length with h2 | h2
      · exact absurd (.inl h2) h1
      · exact h2
    have := best_le l (l.length - 1)
    exact ⟨best l (l.length - 1), h.symm, by omega, fun j hj => best_least l _ j (by omega), best_first l _⟩
end Go.Proofs.Ytdodjkocdaghaaa
