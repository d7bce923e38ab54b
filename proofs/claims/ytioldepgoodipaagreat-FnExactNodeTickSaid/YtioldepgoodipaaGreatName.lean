/- Names: whether one is right, its eight bytes, its number: the model's own, and the program's NameOk. For every eight values; nothing that was there is written. -/
import Derived.Test.YtioldepgoodipaaGreatBroad
namespace Go.Proofs.YtioldepgoodipaaGreat
open Go.RowKit
set_option linter.unusedVariables false

/-- A Name: its eight values. -/
structure Nm where (u : Int) (m : Int) (i : Int) (f : Int) (c : Int) (s : Int) (y : Int) (a : Bool)
/-- A Name, as a value. -/
def nmV (n : Nm) : Value := .agg #[.int .i64 n.u, .int .i64 n.m, .int .i64 n.i, .int .i64 n.f, .int .i64 n.c, .int .i64 n.s, .int .i64 n.y, .bool n.a]
/-- It is right. -/
def okB (n : Nm) : Bool := inB 0 2097151 n.u && inB 0 2047 n.m && inB 0 255 n.i && inB 0 255 n.f && inB 0 127 n.c && inB 0 15 n.s && inB 0 7 n.y
theorem okB_of {n : Nm} (h : okB n = true) : (0 ≤ n.u ∧ n.u ≤ 2097151) ∧ (0 ≤ n.m ∧ n.m ≤ 2047) ∧ (0 ≤ n.i ∧ n.i ≤ 255) ∧ (0 ≤ n.f ∧ n.f ≤ 255) ∧ (0 ≤ n.c ∧ n.c ≤ 127) ∧ (0 ≤ n.s ∧ n.s ≤ 15) ∧ (0 ≤ n.y ∧ n.y ≤ 7) := by
  simp only [okB, Bool.and_eq_true] at h
  exact ⟨inB_of h.1.1.1.1.1.1, inB_of h.1.1.1.1.1.2, inB_of h.1.1.1.1.2, inB_of h.1.1.1.2, inB_of h.1.1.2, inB_of h.1.2, inB_of h.2⟩
/-- Unique and Maker together. -/
def nmK (n : Nm) : Int := n.u + 2097152 * n.m
/-- The last byte. -/
def nmT (n : Nm) : Int := n.s + 16 * n.y + if n.a = true then 128 else 0
theorem nmK_bounds {n : Nm} (h : okB n = true) : 0 ≤ nmK n ∧ nmK n ≤ 4294967295 := by
  have := okB_of h
  unfold nmK
  omega
theorem nmT_bounds {n : Nm} (h : okB n = true) : 0 ≤ nmT n ∧ nmT n ≤ 255 := by
  have := okB_of h
  unfold nmT
  split <;> omega
/-- The bytes, as numbers. -/
def nmI (n : Nm) : List Int := [nmK n % 256, nmK n / 256 % 256, nmK n / 65536 % 256, nmK n / 16777216, n.i, n.f, 2 * n.c, nmT n]
/-- The bytes. -/
def nmL (n : Nm) : List UInt8 := (nmI n).map fun x => UInt8.ofNat x.toNat
theorem nmL_len (n : Nm) : (nmL n).length = 8 := rfl
/-- What NameBytes answers. -/
def nmBytes (n : Nm) : List UInt8 := if okB n = true then nmL n else []
theorem nmL_cells {n : Nm} (h : okB n = true) : bcells (nmL n) = [.int .u8 (nmK n % 256), .int .u8 (nmK n / 256 % 256), .int .u8 (nmK n / 65536 % 256), .int .u8 (nmK n / 16777216), .int .u8 n.i, .int .u8 n.f, .int .u8 (2 * n.c), .int .u8 (nmT n)] := by
  have hk := nmK_bounds h
  have ht := nmT_bounds h
  have h := okB_of h
  simp [bcells, nmL, nmI]
  omega

set_option maxHeartbeats 1000000 in
theorem specNameOk_any (n : Nm) (w : World) :
    Calls Tryz.prog 151 #[nmV n] w fun e w' => e = .returned (.bool (okB n)) ∧ Below w.heap.size w w' := by
  obtain ⟨u, m, i, f, c, s, y, a⟩ := n
  unfold nmV
  dsimp only
  rcases h1 : inB 0 2097151 u
  · go_enter Tryz.func151, Tryz.ntmps151
    go_wp2_with (go_at_call 82; refine (l02Is_any _ _ _ _).mono ?_; (first | rw [h1] | rw [h2] | rw [h3] | rw [h4] | rw [h5] | rw [h6] | rw [h7]); rintro e w' ⟨rfl, rfl⟩)
    go_ret
    exact ⟨by simp [okB, h1], (Below.refl _ _).alloc (Nat.le_refl _) _⟩
  rcases h2 : inB 0 2047 m
  · go_enter Tryz.func151, Tryz.ntmps151
    go_wp2_with (go_at_call 82; refine (l02Is_any _ _ _ _).mono ?_; (first | rw [h1] | rw [h2] | rw [h3] | rw [h4] | rw [h5] | rw [h6] | rw [h7]); rintro e w' ⟨rfl, rfl⟩)
    go_ret
    exact ⟨by simp [okB, h1, h2], (Below.refl _ _).alloc (Nat.le_refl _) _⟩
  rcases h3 : inB 0 255 i
  · go_enter Tryz.func151, Tryz.ntmps151
    go_wp2_with (go_at_call 82; refine (l02Is_any _ _ _ _).mono ?_; (first | rw [h1] | rw [h2] | rw [h3] | rw [h4] | rw [h5] | rw [h6] | rw [h7]); rintro e w' ⟨rfl, rfl⟩)
    go_ret
    exact ⟨by simp [okB, h1, h2, h3], (Below.refl _ _).alloc (Nat.le_refl _) _⟩
  rcases h4 : inB 0 255 f
  · go_enter Tryz.func151, Tryz.ntmps151
    go_wp2_with (go_at_call 82; refine (l02Is_any _ _ _ _).mono ?_; (first | rw [h1] | rw [h2] | rw [h3] | rw [h4] | rw [h5] | rw [h6] | rw [h7]); rintro e w' ⟨rfl, rfl⟩)
    go_ret
    exact ⟨by simp [okB, h1, h2, h3, h4], (Below.refl _ _).alloc (Nat.le_refl _) _⟩
  rcases h5 : inB 0 127 c
  · go_enter Tryz.func151, Tryz.ntmps151
    go_wp2_with (go_at_call 82; refine (l02Is_any _ _ _ _).mono ?_; (first | rw [h1] | rw [h2] | rw [h3] | rw [h4] | rw [h5] | rw [h6] | rw [h7]); rintro e w' ⟨rfl, rfl⟩)
    go_ret
    exact ⟨by simp [okB, h1, h2, h3, h4, h5], (Below.refl _ _).alloc (Nat.le_refl _) _⟩
  rcases h6 : inB 0 15 s
  · go_enter Tryz.func151, Tryz.ntmps151
    go_wp2_with (go_at_call 82; refine (l02Is_any _ _ _ _).mono ?_; (first | rw [h1] | rw [h2] | rw [h3] | rw [h4] | rw [h5] | rw [h6] | rw [h7]); rintro e w' ⟨rfl, rfl⟩)
    go_ret
    exact ⟨by simp [okB, h1, h2, h3, h4, h5, h6], (Below.refl _ _).alloc (Nat.le_refl _) _⟩
  rcases h7 : inB 0 7 y
  · go_enter Tryz.func151, Tryz.ntmps151
    go_wp2_with (go_at_call 82; refine (l02Is_any _ _ _ _).mono ?_; (first | rw [h1] | rw [h2] | rw [h3] | rw [h4] | rw [h5] | rw [h6] | rw [h7]); rintro e w' ⟨rfl, rfl⟩)
    go_ret
    exact ⟨by simp [okB, h1, h2, h3, h4, h5, h6, h7], (Below.refl _ _).alloc (Nat.le_refl _) _⟩
  go_enter Tryz.func151, Tryz.ntmps151
  go_wp2_with (go_at_call 82; refine (l02Is_any _ _ _ _).mono ?_; (first | rw [h1] | rw [h2] | rw [h3] | rw [h4] | rw [h5] | rw [h6] | rw [h7]); rintro e w' ⟨rfl, rfl⟩)
  go_ret
  exact ⟨by simp [okB, h1, h2, h3, h4, h5, h6, h7], (Below.refl _ _).alloc (Nat.le_refl _) _⟩

set_option maxHeartbeats 1000000 in
theorem implNameOk_any (n : Nm) (w : World) :
    Calls Tryz.prog 186 #[nmV n] w fun e w' => e = .returned (.bool (okB n)) ∧ Below w.heap.size w w' := by
  obtain ⟨u, m, i, f, c, s, y, a⟩ := n
  unfold nmV
  dsimp only
  rcases h1 : inB 0 2097151 u
  · go_enter Tryz.func186, Tryz.ntmps186
    go_wp2_with (go_at_call 131; refine (from0_any _ _ _).mono ?_; (first | rw [h1] | rw [h2] | rw [h3] | rw [h4] | rw [h5] | rw [h6] | rw [h7]); rintro e w' ⟨rfl, rfl⟩)
    go_ret
    exact ⟨by simp [okB, h1], (Below.refl _ _).alloc (Nat.le_refl _) _⟩
  rcases h2 : inB 0 2047 m
  · go_enter Tryz.func186, Tryz.ntmps186
    go_wp2_with (go_at_call 131; refine (from0_any _ _ _).mono ?_; (first | rw [h1] | rw [h2] | rw [h3] | rw [h4] | rw [h5] | rw [h6] | rw [h7]); rintro e w' ⟨rfl, rfl⟩)
    go_ret
    exact ⟨by simp [okB, h1, h2], (Below.refl _ _).alloc (Nat.le_refl _) _⟩
  rcases h3 : inB 0 255 i
  · go_enter Tryz.func186, Tryz.ntmps186
    go_wp2_with (go_at_call 131; refine (from0_any _ _ _).mono ?_; (first | rw [h1] | rw [h2] | rw [h3] | rw [h4] | rw [h5] | rw [h6] | rw [h7]); rintro e w' ⟨rfl, rfl⟩)
    go_ret
    exact ⟨by simp [okB, h1, h2, h3], (Below.refl _ _).alloc (Nat.le_refl _) _⟩
  rcases h4 : inB 0 255 f
  · go_enter Tryz.func186, Tryz.ntmps186
    go_wp2_with (go_at_call 131; refine (from0_any _ _ _).mono ?_; (first | rw [h1] | rw [h2] | rw [h3] | rw [h4] | rw [h5] | rw [h6] | rw [h7]); rintro e w' ⟨rfl, rfl⟩)
    go_ret
    exact ⟨by simp [okB, h1, h2, h3, h4], (Below.refl _ _).alloc (Nat.le_refl _) _⟩
  rcases h5 : inB 0 127 c
  · go_enter Tryz.func186, Tryz.ntmps186
    go_wp2_with (go_at_call 131; refine (from0_any _ _ _).mono ?_; (first | rw [h1] | rw [h2] | rw [h3] | rw [h4] | rw [h5] | rw [h6] | rw [h7]); rintro e w' ⟨rfl, rfl⟩)
    go_ret
    exact ⟨by simp [okB, h1, h2, h3, h4, h5], (Below.refl _ _).alloc (Nat.le_refl _) _⟩
  rcases h6 : inB 0 15 s
  · go_enter Tryz.func186, Tryz.ntmps186
    go_wp2_with (go_at_call 131; refine (from0_any _ _ _).mono ?_; (first | rw [h1] | rw [h2] | rw [h3] | rw [h4] | rw [h5] | rw [h6] | rw [h7]); rintro e w' ⟨rfl, rfl⟩)
    go_ret
    exact ⟨by simp [okB, h1, h2, h3, h4, h5, h6], (Below.refl _ _).alloc (Nat.le_refl _) _⟩
  rcases h7 : inB 0 7 y
  · go_enter Tryz.func186, Tryz.ntmps186
    go_wp2_with (go_at_call 131; refine (from0_any _ _ _).mono ?_; (first | rw [h1] | rw [h2] | rw [h3] | rw [h4] | rw [h5] | rw [h6] | rw [h7]); rintro e w' ⟨rfl, rfl⟩)
    go_ret
    exact ⟨by simp [okB, h1, h2, h3, h4, h5, h6, h7], (Below.refl _ _).alloc (Nat.le_refl _) _⟩
  go_enter Tryz.func186, Tryz.ntmps186
  go_wp2_with (go_at_call 131; refine (from0_any _ _ _).mono ?_; (first | rw [h1] | rw [h2] | rw [h3] | rw [h4] | rw [h5] | rw [h6] | rw [h7]); rintro e w' ⟨rfl, rfl⟩)
  go_ret
  exact ⟨by simp [okB, h1, h2, h3, h4, h5, h6, h7], (Below.refl _ _).alloc (Nat.le_refl _) _⟩

end Go.Proofs.YtioldepgoodipaaGreat
