/- Plain facts on numbers and lists, without any program: the bytes of a number. -/
namespace Go.Proofs.Ytmimocoeojhjjaa

/-- A number of either sign as one from 0 on. -/
def foldI (n : Int) : Int := if n < 0 then 2 * -(n + 1) + 1 else 2 * n
theorem foldI_lo (n : Int) : 0 ≤ foldI n := by unfold foldI; split <;> omega
theorem foldI_hi (n : Int) (h0 : -9223372036854775808 ≤ n) (h1 : n ≤ 9223372036854775807) : foldI n < 128 ^ 9 * 2 := by
  unfold foldI
  split <;> omega

/-- A byte of a number. -/
def byteI (u : Int) : UInt8 := UInt8.ofNat u.toNat

/-- The bytes of a number, seven bits a byte, the lowest first, at most f + 1 of them. -/
def encF : Nat → Int → List UInt8
  | 0, u => [byteI u]
  | f + 1, u => if u < 128 then [byteI u] else byteI (u % 128 + 128) :: encF f (u / 128)

theorem encF_small (f : Nat) (u : Int) (h : u < 128) : encF f u = [byteI u] := by
  cases f
  · rfl
  · simp [encF, h]
theorem encF_big (f : Nat) (u : Int) (h : 128 ≤ u) : encF (f + 1) u = byteI (u % 128 + 128) :: encF f (u / 128) := by
  rw [encF, if_neg (by omega)]

theorem encF_len (f : Nat) (u : Int) : (encF f u).length ≤ f + 1 := by
  induction f generalizing u with
  | zero => simp [encF]
  | succ f ih =>
    rw [encF]
    split
    · simp
    · simpa using ih (u / 128)
theorem encF_pos (f : Nat) (u : Int) : 1 ≤ (encF f u).length := by
  cases f
  · simp [encF]
  · rw [encF]
    split <;> simp

/-- The bytes of a number of 64 bits. -/
def numBytes (n : Int) : List UInt8 := encF 9 (foldI n)
theorem numBytes_len (n : Int) : (numBytes n).length ≤ 10 := encF_len 9 _
theorem numBytes_pos (n : Int) : 1 ≤ (numBytes n).length := encF_pos 9 _

/-- u needs no more than f + 1 bytes. -/
def FitsF (f : Nat) (u : Int) : Prop := u < 128 ^ f * 128
theorem FitsF.start (n : Int) (h0 : -9223372036854775808 ≤ n) (h1 : n ≤ 9223372036854775807) : FitsF 9 (foldI n) := by
  have := foldI_hi n h0 h1
  unfold FitsF
  omega
theorem FitsF.step {f : Nat} {u : Int} (h : FitsF f u) (hu : 128 ≤ u) : ∃ g, f = g + 1 ∧ FitsF g (u / 128) := by
  unfold FitsF at h ⊢
  cases f with
  | zero => simp at h; omega
  | succ g =>
    refine ⟨g, rfl, ?_⟩
    rw [Int.pow_succ] at h
    generalize (128 : Int) ^ g = p at *
    omega
end Go.Proofs.Ytmimocoeojhjjaa
