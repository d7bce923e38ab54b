/- Whether an Id is right, and its number: the program's and the model's. For every four numbers; nothing that was there is written. -/
import Derived.Test.YtioldepgoodipaaGreatBroad
namespace Go.Proofs.YtioldepgoodipaaGreat
open Go.RowKit
set_option linter.unusedVariables false

/-- An Id, as a value. -/
def idV (a b d s : Int) : Value := .agg #[.int .i64 a, .int .i64 b, .int .i64 d, .int .i64 s]
/-- It is right. -/
def idB (a b d s : Int) : Bool := inB 0 7 a && inB 0 255 s && inB 0 131071 b && (if wideB b = true then d == 255 else decide (b % 256 = 0) && inB 0 255 d)
/-- Its number. -/
def idN (a b d s : Int) : Int := if idB a b d s = true then 67108864 * a + 256 * (if wideB b = true then b else b + d) + s else -1

theorem broadB_of {p : Int} (h : inB 0 131071 p = true) : broadB p = wideB p := by simp [broadB, h]

set_option maxHeartbeats 1000000 in
theorem specIdRight_any (a b d s : Int) (w : World) :
    Calls Tryz.prog 219 #[idV a b d s] w fun e w' => e = .returned (.bool (idB a b d s)) ∧ Below w.heap.size w w' := by
  unfold idV
  rcases h1 : inB 0 7 a
  · go_enter Tryz.func219, Tryz.ntmps219
    go_wp2_with (go_at_call 82; refine (l02Is_any _ _ _ _).mono ?_; first | rw [h1]; rintro e w' ⟨rfl, rfl⟩)
    go_ret
    exact ⟨by simp [idB, h1], (Below.refl _ _).alloc (Nat.le_refl _) _⟩
  rcases h2 : inB 0 255 s
  · go_enter Tryz.func219, Tryz.ntmps219
    go_wp2_with (go_at_call 82; refine (l02Is_any _ _ _ _).mono ?_; (first | rw [h1] | rw [h2]); rintro e w' ⟨rfl, rfl⟩)
    go_ret
    exact ⟨by simp [idB, h1, h2], (Below.refl _ _).alloc (Nat.le_refl _) _⟩
  rcases h3 : inB 0 131071 b
  · go_enter Tryz.func219, Tryz.ntmps219
    go_wp2_with (first | (go_at_call 82; refine (l02Is_any _ _ _ _).mono ?_; (first | rw [h1] | rw [h2]); rintro e w' ⟨rfl, rfl⟩) | (go_at_call 154; refine (l02Pgn_any _ _).mono ?_; rw [h3]; rintro e w' ⟨rfl, rfl⟩))
    go_ret
    exact ⟨by simp [idB, h1, h2, h3], (Below.refl _ _).alloc (Nat.le_refl _) _⟩
  have hb := inB_of h3
  rcases h4 : wideB b
  · by_cases h5 : b % 256 = 0
    · have hd : (b % 256 == 0) = true := by simpa using h5
      go_enter Tryz.func219, Tryz.ntmps219
      go_wp2_with (first | (go_at_call 82; refine (l02Is_any _ _ _ _).mono ?_; (try (first | rw [h1] | rw [h2])); rintro e w' ⟨rfl, rfl⟩) | (go_at_call 154; refine (l02Pgn_any _ _).mono ?_; rw [h3]; rintro e w' ⟨rfl, rfl⟩) | (go_at_call 86; refine (l02Broad_any _ _ (by omega) (by omega)).mono ?_; rw [h4]; rintro e w' ⟨rfl, rfl⟩))
      go_ret
      exact ⟨by simp [idB, h1, h2, h3, h4, h5], (Below.refl _ _).alloc (Nat.le_refl _) _⟩
    · have hd : (b % 256 == 0) = false := by simpa using h5
      go_enter Tryz.func219, Tryz.ntmps219
      go_wp2_with (first | (go_at_call 82; refine (l02Is_any _ _ _ _).mono ?_; (try (first | rw [h1] | rw [h2])); rintro e w' ⟨rfl, rfl⟩) | (go_at_call 154; refine (l02Pgn_any _ _).mono ?_; rw [h3]; rintro e w' ⟨rfl, rfl⟩) | (go_at_call 86; refine (l02Broad_any _ _ (by omega) (by omega)).mono ?_; rw [h4]; rintro e w' ⟨rfl, rfl⟩))
      go_ret
      exact ⟨by simp [idB, h1, h2, h3, h4, h5], (Below.refl _ _).alloc (Nat.le_refl _) _⟩
  · go_enter Tryz.func219, Tryz.ntmps219
    go_wp2_with (first | (go_at_call 82; refine (l02Is_any _ _ _ _).mono ?_; (first | rw [h1] | rw [h2]); rintro e w' ⟨rfl, rfl⟩) | (go_at_call 154; refine (l02Pgn_any _ _).mono ?_; rw [h3]; rintro e w' ⟨rfl, rfl⟩) | (go_at_call 86; refine (l02Broad_any _ _ (by omega) (by omega)).mono ?_; rw [h4]; rintro e w' ⟨rfl, rfl⟩))
    go_ret
    exact ⟨by simp [idB, h1, h2, h3, h4], (Below.refl _ _).alloc (Nat.le_refl _) _⟩

set_option maxHeartbeats 1000000 in
theorem implIdRight_any (a b d s : Int) (w : World) :
    Calls Tryz.prog 195 #[idV a b d s] w fun e w' => e = .returned (.bool (idB a b d s)) ∧ Below w.heap.size w w' := by
  unfold idV
  rcases h1 : inB 0 7 a
  · go_enter Tryz.func195, Tryz.ntmps195
    go_wp2_with (go_at_call 131; refine (from0_any _ _ _).mono ?_; rw [h1]; rintro e w' ⟨rfl, rfl⟩)
    go_ret
    exact ⟨by simp [idB, h1], (Below.refl _ _).alloc (Nat.le_refl _) _⟩
  rcases h2 : inB 0 255 s
  · go_enter Tryz.func195, Tryz.ntmps195
    go_wp2_with (go_at_call 131; refine (from0_any _ _ _).mono ?_; (first | rw [h1] | rw [h2]); rintro e w' ⟨rfl, rfl⟩)
    go_ret
    exact ⟨by simp [idB, h1, h2], (Below.refl _ _).alloc (Nat.le_refl _) _⟩
  rcases h3 : inB 0 131071 b
  · go_enter Tryz.func195, Tryz.ntmps195
    go_wp2_with (go_at_call 131; refine (from0_any _ _ _).mono ?_; (first | rw [h1] | rw [h2] | rw [h3]); rintro e w' ⟨rfl, rfl⟩)
    go_ret
    exact ⟨by simp [idB, h1, h2, h3], (Below.refl _ _).alloc (Nat.le_refl _) _⟩
  have hb := inB_of h3
  have hbr := broadB_of h3
  rcases h4 : wideB b
  · by_cases h5 : b % 256 = 0
    · have hd : (b % 256 == 0) = true := by simpa using h5
      go_enter Tryz.func195, Tryz.ntmps195
      go_wp2_with (first | (go_at_call 131; refine (from0_any _ _ _).mono ?_; (try (first | rw [h1] | rw [h2] | rw [h3])); rintro e w' ⟨rfl, rfl⟩) | (go_at_call 210; refine (implBroad_any _ _).mono ?_; rw [hbr, h4]; rintro e w' ⟨rfl, rfl⟩))
      go_ret
      exact ⟨by simp [idB, h1, h2, h3, h4, h5], (Below.refl _ _).alloc (Nat.le_refl _) _⟩
    · have hd : (b % 256 == 0) = false := by simpa using h5
      go_enter Tryz.func195, Tryz.ntmps195
      go_wp2_with (first | (go_at_call 131; refine (from0_any _ _ _).mono ?_; (try (first | rw [h1] | rw [h2] | rw [h3])); rintro e w' ⟨rfl, rfl⟩) | (go_at_call 210; refine (implBroad_any _ _).mono ?_; rw [hbr, h4]; rintro e w' ⟨rfl, rfl⟩))
      go_ret
      exact ⟨by simp [idB, h1, h2, h3, h4, h5], (Below.refl _ _).alloc (Nat.le_refl _) _⟩
  · go_enter Tryz.func195, Tryz.ntmps195
    go_wp2_with (first | (go_at_call 131; refine (from0_any _ _ _).mono ?_; (first | rw [h1] | rw [h2] | rw [h3]); rintro e w' ⟨rfl, rfl⟩) | (go_at_call 210; refine (implBroad_any _ _).mono ?_; rw [hbr, h4]; rintro e w' ⟨rfl, rfl⟩))
    go_ret
    exact ⟨by simp [idB, h1, h2, h3, h4], (Below.refl _ _).alloc (Nat.le_refl _) _⟩

theorem idB_of {a b d s : Int} (h : idB a b d s = true) : (0 ≤ a ∧ a ≤ 7) ∧ (0 ≤ s ∧ s ≤ 255) ∧ (0 ≤ b ∧ b ≤ 131071) ∧ ((wideB b = true ∧ d = 255) ∨ (wideB b = false ∧ b % 256 = 0 ∧ 0 ≤ d ∧ d ≤ 255)) := by
  unfold idB at h
  rcases h4 : wideB b <;> simp [h4] at h
  · exact ⟨inB_of h.1.1.1, inB_of h.1.1.2, inB_of h.1.2, .inr ⟨rfl, h.2.1, inB_of h.2.2⟩⟩
  · exact ⟨inB_of h.1.1.1, inB_of h.1.1.2, inB_of h.1.2, .inl ⟨rfl, h.2⟩⟩
theorem idB_to {a b d s : Int} (h1 : 0 ≤ a ∧ a ≤ 7) (h2 : 0 ≤ s ∧ s ≤ 255) (h3 : 0 ≤ b ∧ b ≤ 131071) (h : (wideB b = true ∧ d = 255) ∨ (wideB b = false ∧ b % 256 = 0 ∧ 0 ≤ d ∧ d ≤ 255)) : idB a b d s = true := by
  unfold idB
  rcases h with ⟨h4, h5⟩ | ⟨h4, h5, h6, h7⟩ <;> simp [inB_yes, *]

set_option maxHeartbeats 400000 in
theorem l02Num_any (a b d s : Int) (w : World) (h : idB a b d s = true) :
    Calls Tryz.prog 34 #[idV a b d s] w fun e w' => e = .returned (.int .i64 (idN a b d s)) ∧ Below w.heap.size w w' := by
  obtain ⟨h1, h2, h3, h4⟩ := idB_of h
  unfold idV
  rcases h4 with ⟨h4, rfl⟩ | ⟨h4, h5, h6⟩
  · have HO := Lib.hid (show idN a b 255 s = 67108864 * a + 256 * b + s by simp [idN, h, h4])
    clear h
    go_enter Tryz.func34, Tryz.ntmps34
    go_wp2_with (go_at_call 86; refine (l02Broad_any _ _ (by omega) (by omega)).mono ?_; rw [h4]; rintro e w' ⟨rfl, rfl⟩)
    go_ret
    exact ⟨by rw [HO.out]; rfl, (Below.refl _ _).alloc (Nat.le_refl _) _⟩
  · have HO := Lib.hid (show idN a b d s = 67108864 * a + 256 * (b + d) + s by simp [idN, h, h4])
    clear h h5
    go_enter Tryz.func34, Tryz.ntmps34
    go_wp2_with (go_at_call 86; refine (l02Broad_any _ _ (by omega) (by omega)).mono ?_; rw [h4]; rintro e w' ⟨rfl, rfl⟩)
    go_ret
    exact ⟨by rw [HO.out]; rfl, (Below.refl _ _).alloc (Nat.le_refl _) _⟩

set_option maxHeartbeats 400000 in
theorem specIdNum_any (a b d s : Int) (w : World) :
    Calls Tryz.prog 176 #[idV a b d s] w fun e w' => e = .returned (.int .i64 (idN a b d s)) ∧ Below w.heap.size w w' := by
  rcases h : idB a b d s
  · have HO := Lib.hid (show idN a b d s = -1 by simp [idN, h])
    have HR := fun W => Lib.hid (specIdRight_any a b d s W)
    rw [h] at HR
    clear h
    unfold idV at *
    go_enter Tryz.func176, Tryz.ntmps176
    go_wp2_with (go_at_call 219; refine (HR _).out.mono ?_; rintro e w' ⟨rfl, hb⟩)
    go_ret
    exact ⟨by rw [HO.out]; rfl, ((Below.refl _ _).alloc (Nat.le_refl _) _).trans (hb.mono (by simp))⟩
  · have HR := fun W => Lib.hid (specIdRight_any a b d s W)
    have HN := fun W => Lib.hid (l02Num_any a b d s W h)
    rw [h] at HR
    clear h
    unfold idV at *
    go_enter Tryz.func176, Tryz.ntmps176
    go_wp2_with (first
      | (go_at_call 219; refine (HR _).out.mono ?_; rintro e w1 ⟨rfl, hb⟩; obtain ⟨hc, hf⟩ := bcell hb; have hz : w.heap.size < w1.heap.size := (by have := hb.size; simp at this; omega))
      | (go_at_call 34; refine (HN _).out.mono ?_; rintro e w2 ⟨rfl, hb2⟩))
    go_ret
    exact ⟨rfl, (((Below.refl _ _).alloc (Nat.le_refl _) _).trans (hb.mono (by simp))).trans (hb2.mono (Nat.le_of_lt hz))⟩

set_option maxHeartbeats 400000 in
theorem implIdNum_any (a b d s : Int) (w : World) :
    Calls Tryz.prog 165 #[idV a b d s] w fun e w' => e = .returned (.int .i64 (idN a b d s)) ∧ Below w.heap.size w w' := by
  rcases h : idB a b d s
  · have HO := Lib.hid (show idN a b d s = -1 by simp [idN, h])
    have HR := fun W => Lib.hid (implIdRight_any a b d s W)
    rw [h] at HR
    clear h
    unfold idV at *
    go_enter Tryz.func165, Tryz.ntmps165
    go_wp2_with (go_at_call 195; refine (HR _).out.mono ?_; rintro e w' ⟨rfl, hb⟩)
    go_ret
    exact ⟨by rw [HO.out]; rfl, ((Below.refl _ _).alloc (Nat.le_refl _) _).trans (hb.mono (by simp))⟩
  · have HR := fun W => Lib.hid (implIdRight_any a b d s W)
    rw [h] at HR
    obtain ⟨h1, h2, h3, h4⟩ := idB_of h
    have hbr := broadB_of (inB_yes h3.1 h3.2)
    rcases h4 with ⟨h4, rfl⟩ | ⟨h4, h5, h6⟩
    · have HO := Lib.hid (show idN a b 255 s = 67108864 * a + 256 * b + s by simp [idN, h, h4])
      clear h
      unfold idV at *
      go_enter Tryz.func165, Tryz.ntmps165
      go_wp2_with (first
        | (go_at_call 195; refine (HR _).out.mono ?_; rintro e w1 ⟨rfl, hb⟩; obtain ⟨hc, hf⟩ := bcell hb; have hz : w.heap.size < w1.heap.size := (by have := hb.size; simp at this; omega))
        | (go_at_call 210; refine (implBroad_any _ _).mono ?_; rw [hbr, h4]; rintro e w' ⟨rfl, rfl⟩))
      go_ret
      exact ⟨by rw [HO.out]; rfl, ((Below.refl _ _).alloc (Nat.le_refl _) _).trans (hb.mono (by simp))⟩
    · have HO := Lib.hid (show idN a b d s = 67108864 * a + 256 * (b + d) + s by simp [idN, h, h4])
      clear h h5
      unfold idV at *
      go_enter Tryz.func165, Tryz.ntmps165
      go_wp2_with (first
        | (go_at_call 195; refine (HR _).out.mono ?_; rintro e w1 ⟨rfl, hb⟩; obtain ⟨hc, hf⟩ := bcell hb; have hz : w.heap.size < w1.heap.size := (by have := hb.size; simp at this; omega))
        | (go_at_call 210; refine (implBroad_any _ _).mono ?_; rw [hbr, h4]; rintro e w' ⟨rfl, rfl⟩))
      go_ret
      exact ⟨by rw [HO.out]; rfl, ((Below.refl _ _).alloc (Nat.le_refl _) _).trans (hb.mono (by simp))⟩
end Go.Proofs.YtioldepgoodipaaGreat
