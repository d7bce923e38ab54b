/- The Can of a text: the program's and the model's. For every text; nothing that was there is written. -/
import Derived.Test.YtdodjkocdaghaaaCan
import Derived.Test.YtdodjkocdaghaaaLong
import Derived.Test.YtdodjkocdaghaaaConv
namespace Go.Proofs.Ytdodjkocdaghaaa
open Go.RowKit
set_option linter.unusedVariables false

/-- The number of a text's first four bytes. -/
def be4 (t : ByteArray) : Int := 256 * (256 * (256 * byteAt t 0 + byteAt t 1) + byteAt t 2) + byteAt t 3
/-- What stands behind the first five bytes. -/
def tail5 (t : ByteArray) : ByteArray := t.extract 5 t.size
/-- Those are the bytes of a Can. -/
def readB (t : ByteArray) : Bool := canB (be4 t) (tail5 t) && decide (byteAt t 4 = (tail5 t).size)
/-- A Can and a code, as a value. -/
def canOutV (n : Int) (s : ByteArray) (c : Int) : Value := .agg #[.int .i64 n, .string s, .int .i64 c]
/-- What CanRead answers. -/
def canReadV (t : ByteArray) : Value := if 8000 < t.size then canOutV 0 ⟨#[]⟩ 2 else if t.size < 5 then canOutV 0 ⟨#[]⟩ 4 else if readB t = true then canOutV (be4 t) (tail5 t) 0 else canOutV 0 ⟨#[]⟩ 3

theorem five {t : ByteArray} (h : 5 ≤ t.size) : ∃ a0 a1 a2 a3 a4 r, t = ⟨(a0 :: a1 :: a2 :: a3 :: a4 :: r).toArray⟩ := by
  obtain ⟨⟨l⟩⟩ := t
  have hl : 5 ≤ l.length := h
  match l, hl with
  | a0 :: a1 :: a2 :: a3 :: a4 :: r, _ => exact ⟨a0, a1, a2, a3, a4, r, rfl⟩
theorem tail5_mk (a0 a1 a2 a3 a4 : UInt8) (r : List UInt8) : tail5 ⟨(a0 :: a1 :: a2 :: a3 :: a4 :: r).toArray⟩ = ⟨r.toArray⟩ := by
  unfold tail5
  apply ByteArray.ext
  simp only [ByteArray.data_extract]
  apply Array.toList_inj.1
  simp [ByteArray.size]
theorem be4_lo (t : ByteArray) : 0 ≤ be4 t := by
  unfold be4
  have h0 := byteAt_lo t 0
  have h1 := byteAt_lo t 1
  have h2 := byteAt_lo t 2
  have h3 := byteAt_lo t 3
  omega
theorem be4_hi (t : ByteArray) : be4 t ≤ 4294967295 := by
  unfold be4
  have h0 := byteAt_hi t 0
  have h1 := byteAt_hi t 1
  have h2 := byteAt_hi t 2
  have h3 := byteAt_hi t 3
  omega
theorem u8_of_int (b : UInt8) (n : Int) (h : n = (b.toNat : Int)) : UInt8.ofNat n.toNat = b := by
  subst h
  simp
theorem headB_be4 {t : ByteArray} {a0 a1 a2 a3 : UInt8} (k : Nat) (h0 : byteAt t 0 = a0.toNat) (h1 : byteAt t 1 = a1.toNat) (h2 : byteAt t 2 = a2.toNat) (h3 : byteAt t 3 = a3.toNat) : headB (be4 t) k = [a0, a1, a2, a3, UInt8.ofNat k] := by
  unfold headB be4
  rw [h0, h1, h2, h3]
  have b0 := a0.toNat_lt
  have b1 := a1.toNat_lt
  have b2 := a2.toNat_lt
  have b3 := a3.toNat_lt
  rw [u8_of_int a0 _ (by omega), u8_of_int a1 _ (by omega), u8_of_int a2 _ (by omega), u8_of_int a3 _ (by omega)]
theorem readB_iff {t : ByteArray} (h : 5 ≤ t.size) : readB t = true ↔ ByteArray.mk (canBytesB (be4 t) (tail5 t)).toArray = t := by
  obtain ⟨a0, a1, a2, a3, a4, r, e⟩ := five h
  have hd : tail5 t = ⟨r.toArray⟩ := by rw [e, tail5_mk]
  have h0 : byteAt t 0 = a0.toNat := by rw [e]; rfl
  have h1 : byteAt t 1 = a1.toNat := by rw [e]; rfl
  have h2 : byteAt t 2 = a2.toNat := by rw [e]; rfl
  have h3 : byteAt t 3 = a3.toNat := by rw [e]; rfl
  have h4 : byteAt t 4 = a4.toNat := by rw [e]; rfl
  unfold readB canBytesB
  rw [hd, h4]
  rcases hc : canB (be4 t) ⟨r.toArray⟩
  · simp
    rw [e]
    intro q
    have := congrArg (fun x => x.data.toList) q
    simp at this
  · have hs := (canB_of hc).2
    rw [if_pos rfl, headB_be4 _ h0 h1 h2 h3]
    have hs' : (ByteArray.mk r.toArray).size = r.length := by simp [ByteArray.size]
    rw [hs'] at hs ⊢
    simp only [Bool.true_and, decide_eq_true_eq]
    constructor
    · intro q
      rw [e]
      have : UInt8.ofNat r.length = a4 := by
        have : r.length = a4.toNat := by omega
        rw [this]
        simp
      simp [this]
    · intro q
      rw [e] at q
      have q' := congrArg (fun x => x.data.toList) q
      simp at q'
      rw [← q']
      simp
      omega

theorem eq_readB {t : ByteArray} (h : 5 ≤ t.size) : (canBytesB (be4 t) (tail5 t) == t.toList) = readB t := by
  have hi := readB_iff h
  have e : t.toList = t.data.toList := by
    obtain ⟨⟨r⟩⟩ := t
    simp
  rw [e]
  rcases hr : readB t
  · rw [beq_eq_false_iff_ne]
    intro q
    have := hi.2 (by rw [q])
    rw [hr] at this
    cases this
  · have := hi.1 hr
    rw [beq_iff_eq]
    have := congrArg (fun x => x.data.toList) this
    simpa using this

set_option maxHeartbeats 2000000 in
theorem specCanRead_mid (t : ByteArray) (w : World) (h5 : 5 ≤ t.size) (hs : t.size ≤ 8000) :
    (((canBytesB (be4 t) (tail5 t)) == t.toList) = true → Calls Try.prog 26 #[.string t] w fun e w' => e = .returned (canOutV (be4 t) (tail5 t) 0) ∧ Below w.heap.size w w') ∧
    (((canBytesB (be4 t) (tail5 t)) == t.toList) = false → Calls Try.prog 26 #[.string t] w fun e w' => e = .returned (canOutV 0 ⟨#[]⟩ 3) ∧ Below w.heap.size w w') := by
  have hd : decide (8000 < (t.size : Int)) = false := by simp; omega
  have hd2 : decide ((t.size : Int) < 5) = false := by simp; omega
  have HB := fun W => Lib.hid (specCanBytes_any (be4 t) (tail5 t) W (by have := be4_lo t; omega) (by have := be4_hi t; omega) (by unfold tail5 maxLen; simp; omega))
  have HE := Lib.hid (show 256 * (256 * (256 * byteAt t 0 + byteAt t 1) + byteAt t 2) + byteAt t 3 = be4 t from rfl)
  generalize be4 t = n at *
  generalize canBytesB n (tail5 t) = l at *
  unfold tail5 at *
  have b0 := byteAt_get t 0 (by omega)
  have b1 := byteAt_get t 1 (by omega)
  have b2 := byteAt_get t 2 (by omega)
  have b3 := byteAt_get t 3 (by omega)
  have l0 := byteAt_lo t 0
  have l1 := byteAt_lo t 1
  have l2 := byteAt_lo t 2
  have l3 := byteAt_lo t 3
  have k0 := byteAt_hi t 0
  have k1 := byteAt_hi t 1
  have k2 := byteAt_hi t 2
  have k3 := byteAt_hi t 3
  generalize byteAt t 0 = x0 at *
  generalize byteAt t 1 = x1 at *
  generalize byteAt t 2 = x2 at *
  generalize byteAt t 3 = x3 at *
  obtain ⟨y1, hy1⟩ : ∃ y, 256 * x0 + x1 = y := ⟨_, rfl⟩
  obtain ⟨y2, hy2⟩ : ∃ y, 256 * y1 + x2 = y := ⟨_, rfl⟩
  have r1 : 0 ≤ y1 ∧ y1 ≤ 65535 := by omega
  have r2 : 0 ≤ y2 ∧ y2 ≤ 16777215 := by omega
  have hy3 : 256 * y2 + x3 = n := by rw [← HE.out, ← hy2, ← hy1]
  have r3 : 0 ≤ n ∧ n ≤ 4294967295 := by omega
  clear HE
  refine ⟨fun heq => ?_, fun heq => ?_⟩
  · go_enter Try.func26, Try.ntmps26
    go_wp2
    refine wp_loop_rounds 5 ?_
    rw [rounds_succ]; go_wp2
    rw [rounds_succ]; go_wp2
    rw [rounds_succ]; go_wp2
    rw [rounds_succ]; go_wp2
    rw [rounds_succ]; go_wp2_with (go_at_call 25; refine (HB _).out.mono ?_; rintro e w1 ⟨rfl, h1⟩; obtain ⟨c1, f1⟩ := bcell h1; have z1 : w.heap.size + 1 < w1.heap.size := (by have := h1.size; simp at this; omega))
    have k0 : ∀ j, j < 3 → (w1.cell? ⟨w.heap.size, j, none⟩).isSome = true := by
      intro j hj
      rw [c1 _ _ (by simp; omega)]
      simp [go_sem]
      omega
    exact bodyPost_ret (v := canOutV n (t.extract 5 t.size) 0) (by simp [results, Try.results26, go_sem, k0, canOutV]) rfl
      ⟨rfl, ((((((Below.refl _ _).alloc (Nat.le_refl _) _).alloc (by simp) _).trans (h1.mono (by simp; omega))).setCell (by simp) _).setCell (by simp) _).setCell (by simp) _⟩
  · go_enter Try.func26, Try.ntmps26
    go_wp2
    refine wp_loop_rounds 5 ?_
    rw [rounds_succ]; go_wp2
    rw [rounds_succ]; go_wp2
    rw [rounds_succ]; go_wp2
    rw [rounds_succ]; go_wp2
    rw [rounds_succ]; go_wp2_with (go_at_call 25; refine (HB _).out.mono ?_; rintro e w1 ⟨rfl, h1⟩; obtain ⟨c1, f1⟩ := bcell h1; have z1 : w.heap.size + 1 < w1.heap.size := (by have := h1.size; simp at this; omega))
    have k0 : ∀ j, j < 3 → (w1.cell? ⟨w.heap.size, j, none⟩).isSome = true := by
      intro j hj
      rw [c1 _ _ (by simp; omega)]
      simp [go_sem]
      omega
    exact bodyPost_ret (v := canOutV 0 ⟨#[]⟩ 3) (by simp [results, Try.results26, go_sem, k0, canOutV]) rfl
      ⟨rfl, ((((((Below.refl _ _).alloc (Nat.le_refl _) _).alloc (by simp) _).trans (h1.mono (by simp; omega))).setCell (by simp) _).setCell (by simp) _).setCell (by simp) _⟩

set_option maxHeartbeats 400000 in
theorem specCanRead_any (t : ByteArray) (w : World) (hs : t.size ≤ maxLen) :
    Calls Try.prog 26 #[.string t] w fun e w' => e = .returned (canReadV t) ∧ Below w.heap.size w w' := by
  by_cases ha : 8000 < t.size
  · rw [show canReadV t = canOutV 0 ⟨#[]⟩ 2 from if_pos ha]
    have hd : decide (8000 < (t.size : Int)) = true := by simp; omega
    unfold maxLen at hs
    go_enter Try.func26, Try.ntmps26
    go_wp2
    exact bodyPost_ret (v := canOutV 0 ⟨#[]⟩ 2) (by simp [results, Try.results26, go_sem, canOutV]) rfl ⟨rfl, (Below.refl _ _).alloc (Nat.le_refl _) _⟩
  have hd : decide (8000 < (t.size : Int)) = false := by simp; omega
  by_cases hb : t.size < 5
  · rw [show canReadV t = canOutV 0 ⟨#[]⟩ 4 by simp [canReadV, ha, hb]]
    have hd2 : decide ((t.size : Int) < 5) = true := by simp; omega
    go_enter Try.func26, Try.ntmps26
    go_wp2
    exact bodyPost_ret (v := canOutV 0 ⟨#[]⟩ 4) (by simp [results, Try.results26, go_sem, canOutV]) rfl ⟨rfl, (Below.refl _ _).alloc (Nat.le_refl _) _⟩
  · have H := specCanRead_mid t w (by omega) (by omega)
    rw [eq_readB (by omega)] at H
    rcases he : readB t
    · rw [show canReadV t = canOutV 0 ⟨#[]⟩ 3 by simp [canReadV, ha, hb, he]]
      exact H.2 he
    · rw [show canReadV t = canOutV (be4 t) (tail5 t) 0 by simp [canReadV, ha, hb, he]]
      exact H.1 he
end Go.Proofs.Ytdodjkocdaghaaa
