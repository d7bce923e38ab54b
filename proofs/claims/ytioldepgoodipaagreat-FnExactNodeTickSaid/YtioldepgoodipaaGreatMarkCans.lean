/- The laws' own markCanS and heldCanS: every cell of a row that a call made is written, and read again. Nothing else that was there is written. -/
import Derived.Test.YtioldepgoodipaaGreatCansTo
import Derived.Test.YtioldepgoodipaaGreatMark
namespace Go.Proofs.YtioldepgoodipaaGreat
open Go.RowKit
set_option linter.unusedVariables false

/-- The i-th mark from k on. -/
def markAt (k i : Nat) : Int × ByteArray := (((k + 2 * i : Nat) : Int), markT (k + 2 * i + 1))
/-- n marks from k on. -/
def marksL (k n : Nat) : List (Int × ByteArray) := (List.range n).map (markAt k)
theorem marksL_length (k n : Nat) : (marksL k n).length = n := by simp [marksL]
theorem marksL_at {k n i : Nat} {x : Int × ByteArray} (h : (marksL k n)[i]? = some x) : i < n ∧ x = markAt k i := by
  unfold marksL at h
  rw [List.getElem?_map] at h
  obtain ⟨j, hj, rfl⟩ := Option.map_eq_some_iff.1 h
  obtain ⟨hi, rfl⟩ := List.getElem?_eq_some_iff.1 hj
  have hi' : i < n := by simpa using hi
  simp [hi']
theorem canAt_marks {k n i : Nat} (h : i < n) : canAt (marksL k n) i = markAt k i := by
  have := canAt_some (l := marksL k n) (i := i) (by rw [marksL_length]; exact h)
  exact (marksL_at this).2

set_option maxHeartbeats 2000000 in
theorem markCanS_any {lo hi : Nat} (a : Option Addr) (cap : Nat) (l : List (Int × ByteArray)) (k : Nat) (w : World) (h : NewIn lo hi w a l) (hk0 : 0 < k) (hk : k + 2 * l.length ≤ 30000000) :
    Calls Tryz.prog 114 #[.slice a l.length cap, .int .i64 (k : Int)] w fun e w' => e = .returned (.int .i64 ((k + 2 * l.length : Nat) : Int)) ∧ NewIn lo hi w' a (marksL k l.length) ∧ Out lo hi w w' := by
  obtain ⟨N, hN⟩ : ∃ N, l.length = N := ⟨_, rfl⟩
  have HN := Lib.hid hN
  rcases Nat.eq_zero_or_pos N with hN0 | hN0
  · rw [hN]
    subst hN0
    clear hN h
    go_enter Tryz.func114, Tryz.ntmps114
    go_wp2
    refine wp_loop_rounds 1 ?_
    rw [rounds_succ]; go_wp2
    go_ret
    exact ⟨rfl, .inl (by first | rfl | (simp [marksL])), Out.refl _ _ _⟩
  obtain ⟨b, o, rfl, hlo, hhi, hlt, hf, hc⟩ : ∃ b o, a = some ⟨b, o, none⟩ ∧ lo ≤ b ∧ b < hi ∧ b < w.heap.size ∧ (∀ j, j < N * 2 → w.frozen? ⟨b, o + j, none⟩ = false) ∧ (∀ j, j < N * 2 → (w.cell? ⟨b, o + j, none⟩).isSome = true) := by
    rcases h with h | ⟨b, o, h1, h2, h3, h4, h5, h6⟩
    · rw [h] at hN
      simp at hN
      omega
    · rw [hN] at h5
      refine ⟨b, o, h1, h2, h3, h4, h5, fun j hj => ?_⟩
      have hx := canAt_some (l := l) (i := j / 2) (by omega)
      have hy := h6 _ _ hx
      rcases Nat.mod_two_eq_zero_or_one j with hm | hm
      · rw [show o + j = o + j / 2 * 2 by omega, hy.1]
        rfl
      · rw [show o + j = o + j / 2 * 2 + 1 by omega, hy.2]
        rfl
  have HF := Lib.hid hf
  have HC := Lib.hid hc
  rw [hN] at hk ⊢
  clear hN hf hc h
  go_enter Tryz.func114, Tryz.ntmps114
  go_wp2
  go_loopw [1, 5] (fun u i wr => ∃ m : Nat, i = .int .i64 (m : Int) ∧ u = .int .i64 ((k + 2 * m : Nat) : Int) ∧ m ≤ N ∧ Out lo hi w wr ∧
    (∀ j, j < m → wr.cell? ⟨b, o + j * 2, none⟩ = some (.int .i64 (markAt k j).1) ∧ wr.cell? ⟨b, o + j * 2 + 1, none⟩ = some (.string (markAt k j).2)) ∧
    (∀ j, j < N * 2 → (wr.cell? ⟨b, o + j, none⟩).isSome = true ∧ wr.frozen? ⟨b, o + j, none⟩ = false)) (fun _ i _ => N - (intOf i).toNat)
  case atStart => exact ⟨0, rfl, rfl, by omega, Out.refl _ _ _, fun j hj => absurd hj (by omega), fun j hj => ⟨HC.out j hj, HF.out j hj⟩⟩
  case round =>
    obtain ⟨m, rfl, rfl, hm, hb, hdone, hroom⟩ := hrel
    have HD := Lib.hid hdone
    have HR := Lib.hid hroom
    have hsz := hb.size
    clear hdone hroom
    by_cases hmn : m < N
    · obtain ⟨u0, e0⟩ := Option.isSome_iff_exists.1 (HR.out (m * 2) (by omega)).1
      obtain ⟨u1, e1⟩ := Option.isSome_iff_exists.1 (HR.out (m * 2 + 1) (by omega)).1
      have g0 := (HR.out (m * 2) (by omega)).2
      have g1 := (HR.out (m * 2 + 1) (by omega)).2
      rw [← Nat.add_assoc] at e1 g1
      have hbw : b < wr.heap.size := by omega
      have hw1 : IntKind.i64.wrap (((k + 2 * m : Nat) : Int) + 1) = ((k + 2 * m + 1 : Nat) : Int) := by rw [IntWalk.i64_in _ (by omega)]; omega
      have hw2 : IntKind.i64.wrap (((k + 2 * m + 1 : Nat) : Int) + 1) = ((k + 2 * (m + 1) : Nat) : Int) := by rw [IntWalk.i64_in _ (by omega)]; omega
      have HM := fun W => Lib.hid (markText_any (k + 2 * m + 1) W (by omega) (by omega))
      have HX := Lib.hid (show ((((k + 2 * m : Nat) : Int), markT (k + 2 * m + 1)) : Int × ByteArray) = markAt k m from rfl)
      obtain ⟨q, hq⟩ : ∃ q, markT (k + 2 * m + 1) = q := ⟨_, rfl⟩
      rw [hq] at HM HX
      clear hq
      obtain ⟨k2, hk2⟩ : ∃ k2, k + 2 * (m + 1) = k2 := ⟨_, rfl⟩
      rw [hk2] at hw2
      have HK := Lib.hid hk2
      clear hk2
      generalize (k + 2 * m + 1) = k1 at *
      generalize (k + 2 * m) = k0 at *
      go_wp2_with fail
      refine (HM _).out.mono ?_
      rintro e w2 ⟨rfl, h2⟩
      have hs2 := h2.size
      simp only [World.size_setCell] at hs2
      have p1 := (h2.cell (p := ⟨b, o + m * 2 + 1, none⟩) (by simpa using hbw)).trans ((World.cell?_setCell_other _ _ _ _ (by simp)).trans e1)
      have r1 := (h2.frozen (p := ⟨b, o + m * 2 + 1, none⟩) (by simpa using hbw)).trans ((World.frozen?_setCell _ _ _ _).trans g1)
      go_wp2_with fail
      go_roundw
      case rel =>
        refine ⟨m + 1, by go_num, by rw [HK.out], by omega, ?_, fun j hj => ?_, fun j hj => ?_⟩
        · exact ((hb.setCell (p := ⟨b, o + m * 2, none⟩) hlo hhi _).trans (Out.of_below h2)).setCell (p := ⟨b, o + m * 2 + 1, none⟩) hlo hhi _
        · rcases Nat.lt_or_ge j m with h | h
          · refine ⟨?_, ?_⟩
            · rw [World.cell?_setCell_other _ _ _ _ (by simp <;> omega), h2.cell (p := ⟨b, _, none⟩) (by simpa using hbw), World.cell?_setCell_other _ _ _ _ (by simp <;> omega)]
              exact (HD.out j h).1
            · rw [World.cell?_setCell_other _ _ _ _ (by simp <;> omega), h2.cell (p := ⟨b, _, none⟩) (by simpa using hbw), World.cell?_setCell_other _ _ _ _ (by simp <;> omega)]
              exact (HD.out j h).2
          · obtain rfl : j = m := by omega
            rw [← HX.out]
            refine ⟨?_, World.cell?_setCell_same _ _ _ p1⟩
            rw [World.cell?_setCell_other _ _ _ _ (by simp), h2.cell (p := ⟨b, _, none⟩) (by simpa using hbw)]
            exact World.cell?_setCell_same _ _ _ e0
        · rw [World.frozen?_setCell, h2.frozen (p := ⟨b, _, none⟩) (by simpa using hbw), World.frozen?_setCell]
          refine ⟨?_, (HR.out j hj).2⟩
          by_cases q1 : o + j = o + m * 2 + 1
          · rw [q1, World.cell?_setCell_same _ _ _ p1]
            rfl
          rw [World.cell?_setCell_other _ _ _ _ (by simp <;> omega), h2.cell (p := ⟨b, _, none⟩) (by simpa using hbw)]
          by_cases q2 : o + j = o + m * 2
          · rw [q2, World.cell?_setCell_same _ _ _ e0]
            rfl
          rw [World.cell?_setCell_other _ _ _ _ (by simp <;> omega)]
          exact (HR.out j hj).1
      case measure => simp [intOf]; omega
    · have hge : N ≤ m := by omega
      go_wp2_with fail
      go_ret
      exact ⟨by rw [show N = m by omega]; rfl, .inr ⟨b, o, rfl, hlo, hhi, by omega, fun j hj => (HR.out j (by rw [marksL_length] at hj; exact hj)).2, fun i x hx => by
        obtain ⟨hi, rfl⟩ := marksL_at hx
        exact HD.out i (by omega)⟩, hb⟩
set_option maxHeartbeats 2000000 in
theorem heldCanS_any (a : Option Addr) (cap : Nat) (N : Nat) (k : Nat) (w : World) (h : CansIn w a (marksL k N)) (hk0 : 0 < k) (hk : k + 2 * N ≤ 30000000) :
    Calls Tryz.prog 175 #[.slice a N cap, .int .i64 (k : Int)] w fun e w' => e = .returned (.int .i64 ((k + 2 * N : Nat) : Int)) ∧ Below w.heap.size w w' := by
  rcases Nat.eq_zero_or_pos N with hN0 | hN0
  · subst hN0
    clear h
    go_enter Tryz.func175, Tryz.ntmps175
    go_wp2
    refine wp_loop_rounds 1 ?_
    rw [rounds_succ]; go_wp2
    go_ret
    exact ⟨rfl, Below.refl _ _⟩
  rcases h with h | ⟨b, o, rfl, hlt, hc⟩
  · have := marksL_length k N
    rw [h] at this
    simp at this
    omega
  have HI := Lib.hid hc
  clear hc
  go_enter Tryz.func175, Tryz.ntmps175
  go_wp2
  go_loopw [1, 5] (fun u i wr => ∃ m : Nat, i = .int .i64 (m : Int) ∧ u = .int .i64 ((k + 2 * m : Nat) : Int) ∧ m ≤ N ∧ Below w.heap.size w wr) (fun _ i _ => N - (intOf i).toNat)
  case atStart => exact ⟨0, rfl, rfl, by omega, Below.refl _ _⟩
  case round =>
    obtain ⟨m, rfl, rfl, hm, hb⟩ := hrel
    have hbs := hb.size
    by_cases hmn : m < N
    · have hx := HI.out m _ (canAt_some (by rw [marksL_length]; exact hmn))
      rw [canAt_marks hmn] at hx
      have d0 := (hb.cell (p := ⟨b, o + m * 2, none⟩) hlt).trans hx.1
      have d1 := (hb.cell (p := ⟨b, o + m * 2 + 1, none⟩) hlt).trans hx.2
      have hw1 : IntKind.i64.wrap (((k + 2 * m : Nat) : Int) + 1) = ((k + 2 * m + 1 : Nat) : Int) := by rw [IntWalk.i64_in _ (by omega)]; omega
      have hw2 : IntKind.i64.wrap (((k + 2 * m + 1 : Nat) : Int) + 1) = ((k + 2 * (m + 1) : Nat) : Int) := by rw [IntWalk.i64_in _ (by omega)]; omega
      have HM := fun W => Lib.hid (markText_any (k + 2 * m + 1) W (by omega) (by omega))
      unfold markAt at d0 d1
      simp only at d0 d1
      obtain ⟨q, hq⟩ : ∃ q, markT (k + 2 * m + 1) = q := ⟨_, rfl⟩
      rw [hq] at HM d1
      clear hq hx
      obtain ⟨k2, hk2⟩ : ∃ k2, k + 2 * (m + 1) = k2 := ⟨_, rfl⟩
      rw [hk2] at hw2
      have HK := Lib.hid hk2
      clear hk2
      generalize (k + 2 * m + 1) = k1 at *
      generalize (k + 2 * m) = k0 at *
      have hi1 : (0 : Int) ≤ (m : Int) := by omega
      have hi2 : (m : Int) < (N : Int) := by omega
      go_wp2_with fail
      go_region_held3 (fun W => W.cell? ⟨b, o + m * 2 + 1, none⟩ = some (.string q) ∧ Below wr.heap.size wr W)
        (first | assumption | exact one_first d1 | exact one_call (by show b < _; omega) (by assumption) (by assumption))
        (first | (go_at_call 115; refine (HM _).out.mono ?_; rintro e w1 ⟨rfl, h1⟩))
      go_wp2
      go_roundw
      case rel => exact ⟨m + 1, by go_num, by rw [HK.out], by omega, hb.drew.trans (h1.mono hbs)⟩
      case measure => simp [intOf]; omega
    · have hge : N ≤ m := by omega
      go_wp2_with fail
      go_ret
      exact ⟨by rw [show N = m by omega]; rfl, hb⟩
set_option maxHeartbeats 1000000 in
theorem markQueue_any {lo hi : Nat} (a : Option Addr) (cap : Nat) (l : List (Int × ByteArray)) (k : Nat) (w : World) (h : NewIn lo hi w a l) (hk0 : 0 < k) (hk : k + 2 * l.length ≤ 30000000) :
    Calls Tryz.prog 58 #[.agg #[.slice a l.length cap], .int .i64 (k : Int)] w fun e w' => e = .returned (.int .i64 ((k + 2 * l.length : Nat) : Int)) ∧ NewIn lo hi w' a (marksL k l.length) ∧ Out lo hi w w' := by
  have H := fun W hW => Lib.hid (markCanS_any (lo := lo) (hi := hi) a cap l k W hW hk0 hk)
  have HN := Lib.hid h
  have hb0 := fun o : Obj => (Below.refl w.heap.size w).alloc (Nat.le_refl _) o
  have HB := Lib.hid hb0
  generalize (k + 2 * l.length) = k2 at *
  clear h hb0
  go_enter Tryz.func58, Tryz.ntmps58
  go_wp2_with fail
  refine (H _ (HN.out.kept (HB.out _))).out.mono ?_
  rintro e w1 ⟨rfl, h1, h2⟩
  go_wp2_with fail
  go_ret
  exact ⟨rfl, h1, (Out.of_below (HB.out _)).trans h2⟩
set_option maxHeartbeats 1000000 in
theorem heldQueue_any (a : Option Addr) (cap : Nat) (N : Nat) (k : Nat) (w : World) (h : CansIn w a (marksL k N)) (hk0 : 0 < k) (hk : k + 2 * N ≤ 30000000) :
    Calls Tryz.prog 117 #[.agg #[.slice a N cap], .int .i64 (k : Int)] w fun e w' => e = .returned (.int .i64 ((k + 2 * N : Nat) : Int)) ∧ Below w.heap.size w w' := by
  have H := fun W hW => Lib.hid (heldCanS_any a cap N k W hW hk0 hk)
  have HN := Lib.hid h
  have hb0 := fun o : Obj => (Below.refl w.heap.size w).alloc (Nat.le_refl _) o
  have HB := Lib.hid hb0
  have hk2 : 0 < k + 2 * N := by omega
  generalize (k + 2 * N) = k2 at *
  clear h hb0
  go_enter Tryz.func117, Tryz.ntmps117
  go_wp2_with fail
  refine (H _ (HN.out.kept (HB.out _))).out.mono ?_
  rintro e w1 ⟨rfl, h1⟩
  have hd : decide ((k2 : Int) < 0) = false := decide_eq_false (by omega)
  go_wp2_with fail
  go_ret
  exact ⟨rfl, (HB.out _).trans (h1.mono (by simp))⟩
end Go.Proofs.YtioldepgoodipaaGreat
