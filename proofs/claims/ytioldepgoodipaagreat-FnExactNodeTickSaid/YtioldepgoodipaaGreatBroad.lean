/- Whether a number lies between two others, and whether a group goes to all: the program's and the model's. For every number; nothing that was there is written. -/
import Derived.Test.YtioldepgoodipaaGreatOwn
namespace Go.Proofs.YtioldepgoodipaaGreat
open Go.RowKit
set_option linter.unusedVariables false

/-- n is from a to b. -/
def inB (a b n : Int) : Bool := decide (a ≤ n) && decide (n ≤ b)
theorem inB_yes {a b n : Int} (h1 : a ≤ n) (h2 : n ≤ b) : inB a b n = true := by simp [inB, h1, h2]
theorem inB_of {a b n : Int} (h : inB a b n = true) : a ≤ n ∧ n ≤ b := by simpa [inB] using h
theorem inB_no {a b n : Int} (h : ¬ (a ≤ n ∧ n ≤ b)) : inB a b n = false := by
  rw [Bool.eq_false_iff]
  exact fun q => h (inB_of q)

theorem from0_any (n m : Int) (w : World) :
    Calls Tryz.prog 131 #[.int .i64 n, .int .i64 m] w fun e w' => e = .returned (.bool (inB 0 m n)) ∧ w = w' := by
  by_cases h1 : 0 ≤ n
  · have hd : decide (0 ≤ n) = true := decide_eq_true h1
    go_enter Tryz.func131, Tryz.ntmps131
    go_wp2
    go_ret
    exact ⟨by simp [inB, h1], rfl⟩
  · have hd : decide (0 ≤ n) = false := decide_eq_false h1
    go_enter Tryz.func131, Tryz.ntmps131
    go_wp2
    go_ret
    exact ⟨by simp [inB, hd], rfl⟩
theorem l02Is_any (n a b : Int) (w : World) :
    Calls Tryz.prog 82 #[.int .i64 n, .int .i64 a, .int .i64 b] w fun e w' => e = .returned (.bool (inB a b n)) ∧ w = w' := by
  by_cases h1 : a ≤ n
  · have hd : decide (a ≤ n) = true := decide_eq_true h1
    go_enter Tryz.func82, Tryz.ntmps82
    go_wp2
    go_ret
    exact ⟨by simp [inB, h1], rfl⟩
  · have hd : decide (a ≤ n) = false := decide_eq_false h1
    go_enter Tryz.func82, Tryz.ntmps82
    go_wp2
    go_ret
    exact ⟨by simp [inB, hd], rfl⟩
theorem l02Pgn_any (n : Int) (w : World) :
    Calls Tryz.prog 154 #[.int .i64 n] w fun e w' => e = .returned (.bool (inB 0 131071 n)) ∧ w = w' := by
  go_enter Tryz.func154, Tryz.ntmps154
  go_wp2_with fail
  refine (l02Is_any _ _ _ _).mono ?_
  rintro e w' ⟨rfl, rfl⟩
  go_wp2
  go_ret
  exact ⟨rfl, rfl⟩

/-- By 256 (down), modulo 256, it is 240 or more. -/
def wideB (p : Int) : Bool := decide (0 ≤ p) && decide (240 ≤ p / 256 % 256)
/-- It goes to all. -/
def broadB (p : Int) : Bool := inB 0 131071 p && wideB p

theorem wide_neg {p : Int} (h : p < 0) : ¬ 240 ≤ (p.tdiv 256).tmod 256 := by
  obtain ⟨q, rfl⟩ : ∃ q : Int, p = -q := ⟨-p, by omega⟩
  rw [Int.neg_tdiv, Int.neg_tmod, Int.tdiv_eq_ediv_of_nonneg (by omega), Int.tmod_eq_emod_of_nonneg (by omega)]
  omega

theorem l02Broad_any (p : Int) (w : World) (h0 : -9223372036854775808 ≤ p) (h1 : p ≤ 9223372036854775807) :
    Calls Tryz.prog 86 #[.int .i64 p] w fun e w' => e = .returned (.bool (wideB p)) ∧ w = w' := by
  by_cases h : 0 ≤ p
  · go_enter Tryz.func86, Tryz.ntmps86
    go_wp2
    go_ret
    exact ⟨by simp [wideB, h], rfl⟩
  · have hd : decide (240 ≤ (p.tdiv 256).tmod 256) = false := decide_eq_false (wide_neg (by omega))
    go_enter Tryz.func86, Tryz.ntmps86
    go_wp2
    go_ret
    exact ⟨by simp [wideB]; omega, rfl⟩
theorem broadB_no {p : Int} (h : inB 0 131071 p = false) : broadB p = false := by simp [broadB, h]
theorem implBroad_any (p : Int) (w : World) :
    Calls Tryz.prog 210 #[.int .i64 p] w fun e w' => e = .returned (.bool (broadB p)) ∧ w = w' := by
  rcases h : inB 0 131071 p
  · go_enter Tryz.func210, Tryz.ntmps210
    go_wp2_with fail
    refine (from0_any _ _ _).mono ?_
    rw [h]
    rintro e w' ⟨rfl, rfl⟩
    go_wp2
    go_ret
    exact ⟨by rw [broadB_no h]; rfl, rfl⟩
  · have hp := inB_of h
    go_enter Tryz.func210, Tryz.ntmps210
    go_wp2_with fail
    refine (from0_any _ _ _).mono ?_
    rw [h]
    rintro e w' ⟨rfl, rfl⟩
    go_wp2
    go_ret
    exact ⟨by simp [broadB, wideB, h, hp], rfl⟩
end Go.Proofs.YtioldepgoodipaaGreat
