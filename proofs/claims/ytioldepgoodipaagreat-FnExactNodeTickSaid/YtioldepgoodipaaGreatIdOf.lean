/- The Id of a number: the program's and the model's. For every number of 64 bits; nothing that was there is written. -/
import Derived.Test.YtioldepgoodipaaGreatIds
namespace Go.Proofs.YtioldepgoodipaaGreat
open Go.RowKit
set_option linter.unusedVariables false

/-- Some right one's number. -/
def ofB (n : Int) : Bool := decide (0 ≤ n) && decide (n ≤ 536870911) && decide (n % 67108864 / 256 ≤ 131071)
/-- The group and the Dest of a number's Id. -/
def pG (n : Int) : Int := if wideB (n % 67108864 / 256) = true then n % 67108864 / 256 else n % 67108864 / 256 - n % 67108864 / 256 % 256
def pD (n : Int) : Int := if wideB (n % 67108864 / 256) = true then 255 else n % 67108864 / 256 % 256
theorem wideB_iff (p : Int) : wideB p = true ↔ 0 ≤ p ∧ 240 ≤ p / 256 % 256 := by simp [wideB]
theorem wideB_not (p : Int) : wideB p = false ↔ ¬ (0 ≤ p ∧ 240 ≤ p / 256 % 256) := by
  rw [← wideB_iff, Bool.not_eq_true]
theorem ofB_iff (n : Int) : ofB n = true ↔ 0 ≤ n ∧ n ≤ 536870911 ∧ n % 67108864 / 256 ≤ 131071 := by simp [ofB, and_assoc]
theorem ofB_not (n : Int) : ofB n = false ↔ ¬ (0 ≤ n ∧ n ≤ 536870911 ∧ n % 67108864 / 256 ≤ 131071) := by
  rw [← ofB_iff, Bool.not_eq_true]
theorem idB_part {n : Int} (h : ofB n = true) : idB (n / 67108864) (pG n) (pD n) (n % 256) = true := by
  rw [ofB_iff] at h
  unfold pG pD
  rcases hw : wideB (n % 67108864 / 256)
  · simp
    have hw' := (wideB_not _).1 hw
    refine idB_to (by omega) (by omega) (by omega) (.inr ⟨(wideB_not _).2 ?_, by omega, by omega, by omega⟩)
    omega
  · simp
    exact idB_to (by omega) (by omega) (by omega) (.inl ⟨hw, rfl⟩)
theorem idN_part {n : Int} (h : ofB n = true) : idN (n / 67108864) (pG n) (pD n) (n % 256) = n := by
  have h1 := idB_part h
  rw [ofB_iff] at h
  unfold idN
  rw [if_pos h1]
  clear h1
  unfold pG pD
  rcases hw : wideB (n % 67108864 / 256)
  · simp
    have hw' := (wideB_not _).1 hw
    have : wideB (n % 67108864 / 256 - n % 67108864 / 256 % 256) = false := (wideB_not _).2 (by omega)
    rw [if_neg (by rw [this]; simp)]
    omega
  · simp
    rw [if_pos hw]
    omega
/-- An Id and a code, as a value. -/
def idOutV (a b d s c : Int) : Value := .agg #[.int .i64 a, .int .i64 b, .int .i64 d, .int .i64 s, .int .i64 c]
/-- What IdOf answers. -/
def idOfV (n : Int) : Value := if ofB n = true then idOutV (n / 67108864) (pG n) (pD n) (n % 256) 0 else idOutV 0 0 0 0 1

/-- What the program's takenApart answers. -/
theorem apart_math (n : Int) (hn : 0 ≤ n) (hw : broadB (n % 67108864 / 256) = true) : idB (n / 67108864) (n % 67108864 / 256) 255 (n % 256) = ofB n ∧ (ofB n = true → n % 67108864 / 256 = pG n ∧ (255 : Int) = pD n) := by
  simp [broadB] at hw
  have hb := inB_of hw.1
  unfold pG pD
  simp [hw.2]
  rcases h : ofB n
  · rw [ofB_not] at h
    rw [Bool.eq_false_iff]
    intro q
    have := idB_of q
    omega
  · rw [ofB_iff] at h
    exact idB_to (by omega) (by omega) (by omega) (.inl ⟨hw.2, rfl⟩)
theorem apart_math2 (n : Int) (hn : 0 ≤ n) (hw : broadB (n % 67108864 / 256) = false) : idB (n / 67108864) (n % 67108864 / 256 - n % 67108864 / 256 % 256) (n % 67108864 / 256 % 256) (n % 256) = ofB n ∧ (ofB n = true → n % 67108864 / 256 - n % 67108864 / 256 % 256 = pG n ∧ n % 67108864 / 256 % 256 = pD n) := by
  rcases h : ofB n
  · rw [ofB_not] at h
    refine ⟨?_, fun q => by cases q⟩
    rw [Bool.eq_false_iff]
    intro q
    have := idB_of q
    omega
  · rw [ofB_iff] at h
    have h4 : wideB (n % 67108864 / 256) = false := by
      rw [broadB_of (inB_yes (by omega) (by omega))] at hw
      exact hw
    unfold pG pD
    simp [h4]
    have h5 := (wideB_not _).1 h4
    exact idB_to (by omega) (by omega) (by omega) (.inr ⟨(wideB_not _).2 (by omega), by omega, by omega, by omega⟩)
theorem apart_neg (q : Int) (hq : 0 < q) : broadB (((-q).tmod 67108864).tdiv 256) = false ∧ idB ((-q).tdiv 67108864) (((-q).tmod 67108864).tdiv 256 - (((-q).tmod 67108864).tdiv 256).tmod 256) ((((-q).tmod 67108864).tdiv 256).tmod 256) ((-q).tmod 256) = false := by
  have e1 : (-q).tdiv 67108864 = -(q / 67108864) := by rw [Int.neg_tdiv, Int.tdiv_eq_ediv_of_nonneg (by omega)]
  have e2 : (-q).tmod 256 = -(q % 256) := by rw [Int.neg_tmod, Int.tmod_eq_emod_of_nonneg (by omega)]
  have e3 : ((-q).tmod 67108864).tdiv 256 = -(q % 67108864 / 256) := by rw [Int.neg_tmod, Int.neg_tdiv, Int.tmod_eq_emod_of_nonneg (by omega), Int.tdiv_eq_ediv_of_nonneg (by omega)]
  have e4 : (-(q % 67108864 / 256)).tmod 256 = -(q % 67108864 / 256 % 256) := by rw [Int.neg_tmod, Int.tmod_eq_emod_of_nonneg (by omega)]
  rw [e1, e2, e3, e4]
  constructor
  · rw [Bool.eq_false_iff]
    intro h
    simp [broadB] at h
    have := (wideB_iff _).1 h.2
    omega
  · rw [Bool.eq_false_iff]
    intro h
    have := idB_of h
    omega

theorem apart_neg' (n : Int) (hn : n < 0) : broadB ((n.tmod 67108864).tdiv 256) = false ∧ idB (n.tdiv 67108864) ((n.tmod 67108864).tdiv 256 - ((n.tmod 67108864).tdiv 256).tmod 256) (((n.tmod 67108864).tdiv 256).tmod 256) (n.tmod 256) = false := by
  obtain ⟨q, rfl⟩ : ∃ q : Int, n = -q := ⟨-n, by omega⟩
  exact apart_neg q (by omega)
theorem apart_bounds (n : Int) (hn : n < 0) : -262144 ≤ (n.tmod 67108864).tdiv 256 ∧ (n.tmod 67108864).tdiv 256 ≤ 0 ∧ -256 ≤ ((n.tmod 67108864).tdiv 256).tmod 256 ∧ ((n.tmod 67108864).tdiv 256).tmod 256 ≤ 0 := by
  obtain ⟨q, rfl⟩ : ∃ q : Int, n = -q := ⟨-n, by omega⟩
  have e3 : ((-q).tmod 67108864).tdiv 256 = -(q % 67108864 / 256) := by rw [Int.neg_tmod, Int.neg_tdiv, Int.tmod_eq_emod_of_nonneg (by omega), Int.tdiv_eq_ediv_of_nonneg (by omega)]
  have e4 : (-(q % 67108864 / 256)).tmod 256 = -(q % 67108864 / 256 % 256) := by rw [Int.neg_tmod, Int.tmod_eq_emod_of_nonneg (by omega)]
  rw [e3, e4]
  omega

set_option maxHeartbeats 1000000 in
theorem takenApart_any (n : Int) (w : World) (h0 : -9223372036854775808 ≤ n) (h1 : n ≤ 9223372036854775807) :
    Calls Tryz.prog 194 #[.int .i64 n] w fun e w' => ∃ a b d s, e = .returned (idV a b d s) ∧ (idB a b d s = ofB n ∧ (ofB n = true → a = n / 67108864 ∧ b = pG n ∧ d = pD n ∧ s = n % 256)) ∧ Below w.heap.size w w' := by
  by_cases hn : 0 ≤ n
  · rcases hw : broadB (n % 67108864 / 256)
    · have HM := Lib.hid (apart_math2 n hn hw)
      go_enter Tryz.func194, Tryz.ntmps194
      go_wp2_with (go_at_call 210; refine (implBroad_any _ _).mono ?_; rw [hw]; rintro e w' ⟨rfl, rfl⟩)
      exact bodyPost_ret (v := idV (n / 67108864) (n % 67108864 / 256 - n % 67108864 / 256 % 256) (n % 67108864 / 256 % 256) (n % 256)) (by simp [results, Tryz.results194, go_sem, idV]) rfl
        ⟨_, _, _, _, rfl, ⟨HM.out.1, fun q => ⟨rfl, (HM.out.2 q).1, (HM.out.2 q).2, rfl⟩⟩, ((Below.refl _ _).alloc (Nat.le_refl _) _).alloc (by simp) _⟩
    · have HM := Lib.hid (apart_math n hn hw)
      go_enter Tryz.func194, Tryz.ntmps194
      go_wp2_with (go_at_call 210; refine (implBroad_any _ _).mono ?_; rw [hw]; rintro e w' ⟨rfl, rfl⟩)
      exact bodyPost_ret (v := idV (n / 67108864) (n % 67108864 / 256) 255 (n % 256)) (by simp [results, Tryz.results194, go_sem, idV]) rfl
        ⟨_, _, _, _, rfl, ⟨HM.out.1, fun q => ⟨rfl, (HM.out.2 q).1, (HM.out.2 q).2, rfl⟩⟩, ((Below.refl _ _).alloc (Nat.le_refl _) _).alloc (by simp) _⟩
  · have hof : ofB n = false := (ofB_not _).2 (by omega)
    obtain ⟨hw, hm⟩ := apart_neg' n (by omega)
    have HM := Lib.hid hm
    obtain ⟨hp0, hp1, hp2, hp3⟩ := apart_bounds n (by omega)
    clear hm
    rw [hof]
    clear hof
    go_enter Tryz.func194, Tryz.ntmps194
    go_wp2_with (go_at_call 210; refine (implBroad_any _ _).mono ?_; rw [hw]; rintro e w' ⟨rfl, rfl⟩)
    exact bodyPost_ret (v := idV (n.tdiv 67108864) ((n.tmod 67108864).tdiv 256 - ((n.tmod 67108864).tdiv 256).tmod 256) (((n.tmod 67108864).tdiv 256).tmod 256) (n.tmod 256)) (by simp [results, Tryz.results194, go_sem, idV]) rfl
        ⟨_, _, _, _, rfl, ⟨HM.out, fun q => by cases q⟩, ((Below.refl _ _).alloc (Nat.le_refl _) _).alloc (by simp) _⟩

set_option maxHeartbeats 400000 in
theorem implIdOf_any (n : Int) (w : World) (h0 : -9223372036854775808 ≤ n) (h1 : n ≤ 9223372036854775807) :
    Calls Tryz.prog 133 #[.int .i64 n] w fun e w' => e = .returned (idOfV n) ∧ Below w.heap.size w w' := by
  rcases h : ofB n
  · have HO := Lib.hid (show idOfV n = idOutV 0 0 0 0 1 by simp [idOfV, h])
    go_enter Tryz.func133, Tryz.ntmps133
    go_wp2_with (first
      | (go_at_call 194; refine (takenApart_any _ _ h0 h1).mono ?_; rw [h]; rintro e w1 ⟨a, b, d, s, rfl, ⟨hB, hE⟩, hb⟩; obtain ⟨hc, hf⟩ := bcell hb; have hz : w.heap.size < w1.heap.size := (by have := hb.size; simp at this; omega); unfold idV)
      | (go_at_call 195; refine (implIdRight_any a b d s _).mono ?_; rw [hB]; rintro e w2 ⟨rfl, hb2⟩; obtain ⟨hc2, hf2⟩ := bcell hb2; have hz2 : w1.heap.size < w2.heap.size := (by have := hb2.size; simp at this; omega)))
    have hB1 : Below w.heap.size w w2 := ((((Below.refl _ _).alloc (Nat.le_refl _) _).trans (hb.mono (by simp))).alloc (Nat.le_of_lt hz) _).trans (hb2.mono (by simp; omega))
    have k0 : ∀ j, j < 5 → (w2.cell? ⟨w.heap.size, j, none⟩).isSome = true := by
      intro j hj
      simp [go_sem, hc2, hc, hz]
      omega
    exact bodyPost_ret (v := idOutV 0 0 0 0 1) (by simp [results, Tryz.results133, go_sem, k0, idOutV]) rfl
      ⟨by rw [HO.out], ((((hB1.setCell (by simp) _).setCell (by simp) _).setCell (by simp) _).setCell (by simp) _).setCell (by simp) _⟩
  · have HO := Lib.hid (show idOfV n = idOutV (n / 67108864) (pG n) (pD n) (n % 256) 0 by simp [idOfV, h])
    go_enter Tryz.func133, Tryz.ntmps133
    go_wp2_with (first
      | (go_at_call 194; refine (takenApart_any _ _ h0 h1).mono ?_; rw [h]; rintro e w1 ⟨a, b, d, s, rfl, ⟨hB, hE⟩, hb⟩; obtain ⟨hc, hf⟩ := bcell hb; have hz : w.heap.size < w1.heap.size := (by have := hb.size; simp at this; omega); have HE := Lib.hid (hE rfl); clear hE; unfold idV)
      | (go_at_call 195; refine (implIdRight_any a b d s _).mono ?_; rw [hB]; rintro e w2 ⟨rfl, hb2⟩; obtain ⟨hc2, hf2⟩ := bcell hb2; have hz2 : w1.heap.size < w2.heap.size := (by have := hb2.size; simp at this; omega)))
    have hB1 : Below w.heap.size w w2 := ((((Below.refl _ _).alloc (Nat.le_refl _) _).trans (hb.mono (by simp))).alloc (Nat.le_of_lt hz) _).trans (hb2.mono (by simp; omega))
    obtain ⟨rfl, rfl, rfl, rfl⟩ := HE.out
    have k0 : ∀ j, j < 5 → (w2.cell? ⟨w.heap.size, j, none⟩).isSome = true := by
      intro j hj
      simp [go_sem, hc2, hc, hz]
      omega
    exact bodyPost_ret (v := idOutV (n / 67108864) (pG n) (pD n) (n % 256) 0) (by simp [results, Tryz.results133, go_sem, k0, idOutV]) rfl
      ⟨by rw [HO.out], ((((hB1.setCell (by simp) _).setCell (by simp) _).setCell (by simp) _).setCell (by simp) _).setCell (by simp) _⟩

/-- The group and the Dest that the model takes out of a number from 0 on. -/
def sG (n : Int) : Int := if wideB (n / 256 % 262144) = true then n / 256 % 262144 else n / 256 % 262144 - n / 256 % 262144 % 256
def sD (n : Int) : Int := if wideB (n / 256 % 262144) = true then 255 else n / 256 % 262144 % 256
theorem part_alike (n : Int) : n / 256 % 262144 = n % 67108864 / 256 := by omega
theorem sG_eq (n : Int) : sG n = pG n := by
  unfold sG pG
  rw [part_alike]
theorem sD_eq (n : Int) : sD n = pD n := by
  unfold sD pD
  rw [part_alike]
theorem idB_not_part {n : Int} (hn : 0 ≤ n) (h : ofB n = false) : idB (n / 67108864) (pG n) (pD n) (n % 256) = false := by
  rw [ofB_not] at h
  rw [Bool.eq_false_iff]
  intro q
  obtain ⟨q1, q2, q3, q4⟩ := idB_of q
  unfold pG at q3
  split at q3 <;> omega
set_option maxHeartbeats 1000000 in
theorem l02Id_any (n : Int) (w : World) (h0 : 0 ≤ n) (h1 : n ≤ 9223372036854775807) :
    Calls Tryz.prog 122 #[.int .i64 n] w fun e w' => e = .returned (idV (n / 67108864) (pG n) (pD n) (n % 256)) ∧ Below w.heap.size w w' := by
  rw [← sG_eq, ← sD_eq]
  rcases hw : wideB (n / 256 % 262144)
  · have HG := Lib.hid (show sG n = n / 256 % 262144 - n / 256 % 262144 % 256 by simp [sG, hw])
    have HD := Lib.hid (show sD n = n / 256 % 262144 % 256 by simp [sD, hw])
    go_enter Tryz.func122, Tryz.ntmps122
    go_wp2_with (go_at_call 86; refine (l02Broad_any _ _ (by omega) (by omega)).mono ?_; rw [hw]; rintro e w' ⟨rfl, rfl⟩)
    rw [HG.out, HD.out]
    exact bodyPost_ret (v := idV (n / 67108864) (n / 256 % 262144 - n / 256 % 262144 % 256) (n / 256 % 262144 % 256) (n % 256)) (by simp [results, Tryz.results122, go_sem, idV]) rfl
      ⟨rfl, ((Below.refl _ _).alloc (Nat.le_refl _) _).alloc (by simp) _⟩
  · have HG := Lib.hid (show sG n = n / 256 % 262144 by simp [sG, hw])
    have HD := Lib.hid (show sD n = 255 by simp [sD, hw])
    go_enter Tryz.func122, Tryz.ntmps122
    go_wp2_with (go_at_call 86; refine (l02Broad_any _ _ (by omega) (by omega)).mono ?_; rw [hw]; rintro e w' ⟨rfl, rfl⟩)
    rw [HG.out, HD.out]
    exact bodyPost_ret (v := idV (n / 67108864) (n / 256 % 262144) 255 (n % 256)) (by simp [results, Tryz.results122, go_sem, idV]) rfl
      ⟨rfl, ((Below.refl _ _).alloc (Nat.le_refl _) _).alloc (by simp) _⟩

theorem idN_not {a b d s : Int} (h : idB a b d s = false) : idN a b d s = -1 := by simp [idN, h]

set_option maxHeartbeats 1000000 in
theorem specIdOf_any (n : Int) (w : World) (h0 : -9223372036854775808 ≤ n) (h1 : n ≤ 9223372036854775807) :
    Calls Tryz.prog 121 #[.int .i64 n] w fun e w' => e = .returned (idOfV n) ∧ Below w.heap.size w w' := by
  by_cases hn : 0 ≤ n
  · have hd : decide (n < 0) = false := decide_eq_false (by omega)
    rcases h : ofB n
    · have HO := Lib.hid (show idOfV n = idOutV 0 0 0 0 1 by simp [idOfV, h])
      have HN := Lib.hid (idN_not (idB_not_part hn h))
      have hd2 : ((-1 : Int) != n) = true := by simp; omega
      have HL := fun W => Lib.hid (l02Id_any n W hn h1)
      clear h
      generalize pG n = b at *
      generalize pD n = d at *
      go_enter Tryz.func121, Tryz.ntmps121
      go_wp2_with (first
        | (go_at_call 122; refine (HL _).out.mono ?_; rintro e w1 ⟨rfl, hb⟩; obtain ⟨hc, hf⟩ := bcell hb; have hz : w.heap.size < w1.heap.size := (by have := hb.size; simp at this; omega); unfold idV)
        | (go_at_call 176; refine (specIdNum_any _ _ _ _ _).mono ?_; rw [HN.out]; rintro e w2 ⟨rfl, hb2⟩; obtain ⟨hc2, hf2⟩ := bcell hb2; have hz2 : w.heap.size < w2.heap.size := (by have := hb2.size; omega)))
      have hB1 : Below w.heap.size w w2 := (((Below.refl _ _).alloc (Nat.le_refl _) _).trans (hb.mono (by simp))).trans (hb2.mono (Nat.le_of_lt hz))
      have k0 : ∀ j, j < 5 → (w2.cell? ⟨w.heap.size, j, none⟩).isSome = true := by
        intro j hj
        simp [go_sem, hc2, hc, hz]
        omega
      exact bodyPost_ret (v := idOutV 0 0 0 0 1) (by simp [results, Tryz.results121, go_sem, k0, idOutV]) rfl
        ⟨by rw [HO.out], ((((hB1.setCell (by simp) _).setCell (by simp) _).setCell (by simp) _).setCell (by simp) _).setCell (by simp) _⟩
    · have HO := Lib.hid (show idOfV n = idOutV (n / 67108864) (pG n) (pD n) (n % 256) 0 by simp [idOfV, h])
      have HN := Lib.hid (idN_part h)
      have HL := fun W => Lib.hid (l02Id_any n W hn h1)
      clear h
      generalize pG n = b at *
      generalize pD n = d at *
      have hd2 : (n != n) = false := by simp
      go_enter Tryz.func121, Tryz.ntmps121
      go_wp2_with (first
        | (go_at_call 176; refine (specIdNum_any _ _ _ _ _).mono ?_; rw [HN.out]; rintro e w2 ⟨rfl, hb2⟩; obtain ⟨hc2, hf2⟩ := bcell hb2; have hz2 : w.heap.size < w2.heap.size := (by have := hb2.size; omega))
        | (go_at_call 122; refine (HL _).out.mono ?_; (first | (rintro e w3 ⟨rfl, hb3⟩; have hz3 := hz2; obtain ⟨hc3, hf3⟩ := bcell hb3) | (rintro e w1 ⟨rfl, hb⟩; obtain ⟨hc, hf⟩ := bcell hb; have hz : w.heap.size < w1.heap.size := (by have := hb.size; simp at this; omega))); unfold idV))
      have hB1 : Below w.heap.size w w3 := ((((Below.refl _ _).alloc (Nat.le_refl _) _).trans (hb.mono (by simp))).trans (hb2.mono (Nat.le_of_lt hz))).trans (hb3.mono (Nat.le_of_lt hz2))
      have k0 : ∀ j, j < 5 → (w3.cell? ⟨w.heap.size, j, none⟩).isSome = true := by
        intro j hj
        simp [go_sem, hc3, hc2, hc, hz, hz2]
        omega
      exact bodyPost_ret (v := idOutV (n / 67108864) b d (n % 256) 0) (by simp [results, Tryz.results121, go_sem, k0, idOutV]) rfl
        ⟨by rw [HO.out], ((((hB1.setCell (by simp) _).setCell (by simp) _).setCell (by simp) _).setCell (by simp) _).setCell (by simp) _⟩
  · have hd : decide (n < 0) = true := decide_eq_true (by omega)
    have HO := Lib.hid (show idOfV n = idOutV 0 0 0 0 1 by simp [idOfV, (ofB_not n).2 (by omega)])
    go_enter Tryz.func121, Tryz.ntmps121
    go_wp2_with fail
    exact bodyPost_ret (v := idOutV 0 0 0 0 1) (by simp [results, Tryz.results121, go_sem, idOutV]) rfl
      ⟨by rw [HO.out], (Below.refl _ _).alloc (Nat.le_refl _) _⟩
end Go.Proofs.YtioldepgoodipaaGreat
