/- The Id of a number: the program's and the model's. For every number of 64 bits; nothing that was there is written. -/
import Derived.Test.YtanijfmfjabmfaaIds
namespace Go.Proofs.Ytanijfmfjabmfaa
open Go.RowKit
set_option linter.unusedVariables false

/-- Some right one's number. -/
def ofB (n : Int) : Bool := decide (0 ≤ n) && decide (n ≤ 536870911) && decide (n % 67108864 / 256 ≤ 131071)
/-- The group and the Dest of a number's Id. -/
def pG (n : Int) : Int := if wideB (n % 67108864 / 256) = true then n % 67108864 / 256 else n % 67108864 / 256 - n % 67108864 / 256 % 256
def pD (n : Int) : Int := if wideB (n % 67108864 / 256) = true then 255 else n % 67108864 / 256 % 256
theorem wideB_iff (p : Int) : wideB p = true ↔ 0 ≤ p ∧ 240 ≤ p / 256 % 256 := by simp [wideB]
theorem wideB_not (p : Int) : wideB p = false ↔ ¬ (0 ≤ p ∧ 240 ≤ p / 256 % 256) := by
  rw [← wideB_iff, Bool.not_eq_true]
theorem ofB_iff (n : Int) : ofB n = true ↔ 0 ≤ n ∧ n ≤ 536870911 ∧ n % 67108864 / 256 ≤ 131071 := by simp [ofB, and_assoc]
theorem ofB_not (n : Int) : ofB n = false ↔ ¬ (0 ≤ n ∧ n ≤ 536870911 ∧ n % 67108864 / 256 ≤ 131071) := by
  rw [← ofB_iff, Bool.not_eq_true]
theorem idB_part {n : Int} (h : ofB n = true) : idB (n / 67108864) (pG n) (pD n) (n % 256) = true := by
  rw [ofB_iff] at h
  unfold pG pD
  rcases hw : wideB (n % 67108864 / 256)
  · simp
    have hw' := (wideB_not _).1 hw
    refine idB_to (by omega) (by omega) (by omega) (.inr ⟨(wideB_not _).2 ?_, by omega, by omega, by omega⟩)
    omega
  · simp
    exact idB_to (by omega) (by omega) (by omega) (.inl ⟨hw, rfl⟩)
theorem idN_part {n : Int} (h : ofB n = true) : idN (n / 67108864) (pG n) (pD n) (n % 256) = n := by
  have h1 := idB_part h
  rw [ofB_iff] at h
  unfold idN
  rw [if_pos h1]
  clear h1
  unfold pG pD
  rcases hw : wideB (n % 67108864 / 256)
  · simp
    have hw' := (wideB_not _).1 hw
    have : wideB (n % 67108864 / 256 - n % 67108864 / 256 % 256) = false := (wideB_not _).2 (by omega)
    rw [if_neg (by rw [this]; simp)]
    omega
  · simp
    rw [if_pos hw]
    omega
/-- An Id and a code, as a value. -/
def idOutV (a b d s c : Int) : Value := .agg #[.int .i64 a, .int .i64 b, .int .i64 d, .int .i64 s, .int .i64 c]
/-- What IdOf answers. -/
def idOfV (n : Int) : Value := if ofB n = true then idOutV (n / 67108864) (pG n) (pD n) (n % 256) 0 else idOutV 0 0 0 0 1

/-- What the program's takenApart answers. -/
theorem apart_math (n : Int) (hn : 0 ≤ n) (hw : broadB (n % 67108864 / 256) = true) : idB (n / 67108864) (n % 67108864 / 256) 255 (n % 256) = ofB n ∧ (ofB n = true → n % 67108864 / 256 = pG n ∧ (255 : Int) = pD n) := by
  simp [broadB] at hw
  have hb := inB_of hw.1
  unfold pG pD
  simp [hw.2]
  rcases h : ofB n
  · rw [ofB_not] at h
    rw [Bool.eq_false_iff]
    intro q
    have := idB_of q
    omega
  · rw [ofB_iff] at h
    exact idB_to (by omega) (by omega) (by omega) (.inl ⟨hw.2, rfl⟩)
theorem apart_math2 (n : Int) (hn : 0 ≤ n) (hw : broadB (n % 67108864 / 256) = false) : idB (n / 67108864) (n % 67108864 / 256 - n % 67108864 / 256 % 256) (n % 67108864 / 256 % 256) (n % 256) = ofB n ∧ (ofB n = true → n % 67108864 / 256 - n % 67108864 / 256 % 256 = pG n ∧ n % 67108864 / 256 % 256 = pD n) := by
  rcases h : ofB n
  · rw [ofB_not] at h
    refine ⟨?_, fun q => by cases q⟩
    rw [Bool.eq_false_iff]
    intro q
    have := idB_of q
    omega
  · rw [ofB_iff] at h
    have h4 : wideB (n % 67108864 / 256) = false := by
      rw [broadB_of (inB_yes (by omega) (by omega))] at hw
      exact hw
    unfold pG pD
    simp [h4]
    have h5 := (wideB_not _).1 h4
    exact idB_to (by omega) (by omega) (by omega) (.inr ⟨(wideB_not _).2 (by omega), by omega, by omega, by omega⟩)
theorem apart_neg (q : Int) (hq : 0 < q) : broadB (((-q).tmod 67108864).tdiv 256) = false ∧ idB ((-q).tdiv 67108864) (((-q).tmod 67108864).tdiv 256 - (((-q).tmod 67108864).tdiv 256).tmod 256) ((((-q).tmod 67108864).tdiv 256).tmod 256) ((-q).tmod 256) = false := by
  have e1 : (-q).tdiv 67108864 = -(q / 67108864) := by rw [Int.neg_tdiv, Int.tdiv_eq_ediv_of_nonneg (by omega)]
  have e2 : (-q).tmod 256 = -(q % 256) := by rw [Int.neg_tmod, Int.tmod_eq_emod_of_nonneg (by omega)]
  have e3 : ((-q).tmod 67108864).tdiv 256 = -(q % 67108864 / 256) := by rw [Int.neg_tmod, Int.neg_tdiv, Int.tmod_eq_emod_of_nonneg (by omega), Int.tdiv_eq_ediv_of_nonneg (by omega)]
  have e4 : (-(q % 67108864 / 256)).tmod 256 = -(q % 67108864 / 256 % 256) := by rw [Int.neg_tmod, Int.tmod_eq_emod_of_nonneg (by omega)]
  rw [e1, e2, e3, e4]
  constructor
  · rw [Bool.eq_false_iff]
    intro h
    simp [broadB] at h
    have := (wideB_iff _).1 h.2
    omega
  · rw [Bool.eq_false_iff]
    intro h
    have := idB_of h
    omega

theorem apart_neg' (n : Int) (hn : n < 0) : broadB ((n.tmod 67108864).tdiv 256) = false ∧ idB (n.tdiv 67108864) ((n.tmod 67108864).tdiv 256 - ((n.tmod 67108864).tdiv 256).tmod 256) (((n.tmod 67108864).tdiv 256).tmod 256) (n.tmod 256) = false := by
  obtain ⟨q, rfl⟩ : ∃ q : Int, n = -q := ⟨-n, by omega⟩
  exact apart_neg q (by omega)
theorem apart_bounds (n : Int) (hn : n < 0) : -262144 ≤ (n.tmod 67108864).tdiv 256 ∧ (n.tmod 67108864).tdiv 256 ≤ 0 ∧ -256 ≤ ((n.tmod 67108864).tdiv 256).tmod 256 ∧ ((n.tmod 67108864).tdiv 256).tmod 256 ≤ 0 := by
  obtain ⟨q, rfl⟩ : ∃ q : Int, n = -q := ⟨-n, by omega⟩
  have e3 : ((-q).tmod 67108864).tdiv 256 = -(q % 67108864 / 256) := by rw [Int.neg_tmod, Int.neg_tdiv, Int.tmod_eq_emod_of_nonneg (by omega), Int.tdiv_eq_ediv_of_nonneg (by omega)]
  have e4 : (-(q % 67108864 / 256)).tmod 256 = -(q % 67108864 / 256 % 256) := by rw [Int.neg_tmod, Int.tmod_eq_emod_of_nonneg (by omega)]
  rw [e3, e4]
  omega

/-- The group and the Dest that the model takes out of a number from 0 on. -/
def sG (n : Int) : Int := if wideB (n / 256 % 262144) = true then n / 256 % 262144 else n / 256 % 262144 - n / 256 % 262144 % 256
def sD (n : Int) : Int := if wideB (n / 256 % 262144) = true then 255 else n / 256 % 262144 % 256
theorem part_alike (n : Int) : n / 256 % 262144 = n % 67108864 / 256 := by omega
theorem sG_eq (n : Int) : sG n = pG n := by
  unfold sG pG
  rw [part_alike]
theorem sD_eq (n : Int) : sD n = pD n := by
  unfold sD pD
  rw [part_alike]
theorem idB_not_part {n : Int} (hn : 0 ≤ n) (h : ofB n = false) : idB (n / 67108864) (pG n) (pD n) (n % 256) = false := by
  rw [ofB_not] at h
  rw [Bool.eq_false_iff]
  intro q
  obtain ⟨q1, q2, q3, q4⟩ := idB_of q
  unfold pG at q3
  split at q3 <;> omega
theorem idN_not {a b d s : Int} (h : idB a b d s = false) : idN a b d s = -1 := by simp [idN, h]

end Go.Proofs.Ytanijfmfjabmfaa
