/- The Queue of what waits, in new memory: the program's freshQueue. Nothing that was there is written. -/
import Derived.Test.YtmfnbbjhaolhgaaFresh
import Derived.Test.YtmfnbbjhaolhgaaCansTo
namespace Go.Proofs.Ytmfnbbjhaolhgaa
open Go.RowKit Go.Joins
set_option linter.unusedVariables false

/-- Texts that are not too long. -/
def CansSmall (l : List (Int × ByteArray)) : Prop := ∀ x ∈ l, x.2.size ≤ 1000000
theorem CansSmall.at {l : List (Int × ByteArray)} (h : CansSmall l) {i : Nat} (hi : i < l.length) : (canAt l i).2.size ≤ 1000000 := h _ (List.mem_of_getElem? (canAt_some hi))
theorem CansSmall.of_all {l : List (Int × ByteArray)} (h : allB l = true) : CansSmall l := by
  intro x hx
  unfold allB at h
  rw [List.all_eq_true] at h
  have := h x hx
  unfold canB at this
  simp at this
  omega

set_option maxRecDepth 100000 in
set_option maxHeartbeats 4000000 in
theorem freshQueue_any (a : Option Addr) (c : Nat) (l : List (Int × ByteArray)) (w : World) (h : CansIn w a l) (hs : CansSmall l) (hlen : l.length ≤ 1048576) :
    Calls Try.prog 37 #[.agg #[.slice a l.length c]] w fun e w' => ∃ a2 c2, e = .returned (.agg #[.slice a2 l.length c2]) ∧ l.length ≤ c2 ∧ NewIn w.heap.size w'.heap.size w' a2 l ∧ Below w.heap.size w w' := by
  obtain ⟨i0, hi, hz0, hz1, hz2⟩ := info_parts CansTo.info
  obtain ⟨N, hN⟩ : ∃ N, l.length = N := ⟨_, rfl⟩
  have HN := Lib.hid hN
  have HH := Lib.hid h
  have HS := Lib.hid hs
  have HB := Lib.hid (fun o o' : Obj => ((Below.refl w.heap.size w).alloc (Nat.le_refl _) o).alloc (by simp) o')
  rw [hN] at hlen ⊢
  clear hN h hs
  go_enter Try.func37, Try.ntmps37
  go_wp2_with (at_make; refine wpList_make_full _ rfl (.tmp 8) (.tmp 8) 23 rfl (w.heap.size + 2) 29 i0 (.agg #[.int .i64 0, .string ByteArray.empty]) 2 Try.underlying23 hi hz0 hz1 .i64 .i64 (N : Int) (N : Int) N (by rfl) (by rfl) (by omega) (by omega) (by rw [hz2]; omega) (by unfold maxLen; omega) (by simp) ?_; intro w1 hown hgrow; have hb1 := (Below.refl _ _).grown hgrow (Nat.le_refl _) (fun _ h => by cases h); have e0 : w1.cell? ⟨w.heap.size, 0, none⟩ = some (.slice a N c) := (hb1.cell (p := ⟨w.heap.size, 0, none⟩) (by simp; omega)).trans (by simp [go_sem]); have e1 : w1.cell? ⟨w.heap.size + 1, 0, none⟩ = some (.slice none 0 0) := (hb1.cell (p := ⟨w.heap.size + 1, 0, none⟩) (by simp)).trans (by simp [go_sem]); have f1 : w1.frozen? ⟨w.heap.size + 1, 0, none⟩ = false := (hb1.frozen (p := ⟨w.heap.size + 1, 0, none⟩) (by simp)).trans (by simp [go_sem]); have bw : Below w.heap.size w w1 := (HB.out _ _).trans (hb1.mono (by simp; omega)); have HO := Lib.hid hown; have HS1 := Lib.hid hb1.size; clear hown hgrow hb1)
  have HB0 := Lib.hid (own_row2 HO.out)
  have hz : Hid (N = 0 ∨ w.heap.size + 2 < w1.heap.size) := Lib.hid (by
    rcases Nat.eq_zero_or_pos N with h | h
    · exact .inl h
    · right
      obtain ⟨g, cap', hv, _, hlt⟩ := World.ownsRow.form' HO.out h
      simp at hv
      omega)
  have hs1 : w.heap.size + 2 ≤ w1.heap.size := by have := HS1.out; simpa using this
  clear HO HS1
  obtain ⟨G, hG⟩ : ∃ G, w.heap.size + 1 + 1 = G := ⟨_, rfl⟩
  have HG := Lib.hid hG
  rw [hG]
  clear hG
  rcases Nat.eq_zero_or_pos N with hN0 | hN0
  · subst hN0
    have hl : l = [] := List.eq_nil_of_length_eq_zero HN.out
    subst hl
    refine wp_loop_rounds 1 ?_
    rw [rounds_succ]; go_wp2
    exact bodyPost_ret (v := .agg #[.slice (some ⟨G, 0, none⟩) 0 0]) (by simp [results, Try.results37, go_sem, e1]) rfl
      ⟨some ⟨G, 0, none⟩, ⟨0, rfl⟩, .inl rfl, bw.setCell (by simp) _⟩
  have hgz : w.heap.size + 2 < w1.heap.size := by have := hz.out; omega
  obtain ⟨b, o, rfl, hlt, hc⟩ : ∃ b o, a = some ⟨b, o, none⟩ ∧ b < w.heap.size ∧ ∀ (i : Nat) x, l[i]? = some x → w.cell? ⟨b, o + i * 2, none⟩ = some (.int .i64 x.1) ∧ w.cell? ⟨b, o + i * 2 + 1, none⟩ = some (.string x.2) := by
    rcases HH.out with h | h
    · have := HN.out
      rw [h] at this
      simp at this
      omega
    · exact h
  have HI := Lib.hid hc
  clear hc hz HH
  have hG1 : w.heap.size + 1 < G := by have := HG.out; omega
  have HB1 : Hid (∀ j, j < N * 2 → (w1.cell? ⟨G, j, none⟩).isSome = true ∧ w1.frozen? ⟨G, j, none⟩ = false) := Lib.hid (fun j hj => by
    have := HB0.out j hj
    rw [← HG.out]
    simpa using this)
  have hGl0 : G < w1.heap.size := by have := HG.out; omega
  clear HB0 HG
  go_loopw [4, 5, 13] (fun _ _ i wr => ∃ k : Nat, i = .int .i64 (k : Int) ∧ k ≤ N ∧ Below w.heap.size w wr ∧ w1.heap.size ≤ wr.heap.size ∧
    (∀ j, j < k → wr.cell? ⟨G, j * 2, none⟩ = some (.int .i64 (canAt l j).1) ∧ wr.cell? ⟨G, j * 2 + 1, none⟩ = some (.string (canAt l j).2)) ∧
    (∀ j, j < N * 2 → (wr.cell? ⟨G, j, none⟩).isSome = true ∧ wr.frozen? ⟨G, j, none⟩ = false) ∧ wr.cell? ⟨w.heap.size + 1, 0, none⟩ = some (.slice none 0 0) ∧ wr.frozen? ⟨w.heap.size + 1, 0, none⟩ = false) (fun _ _ i _ => N - (intOf i).toNat)
  case atStart => exact ⟨0, rfl, by omega, bw, Nat.le_refl _, fun j hj => absurd hj (by omega), HB1.out, e1, f1⟩
  case round =>
    obtain ⟨k, rfl, hk, hb, hsz, hdone, hroom, q1, q2⟩ := hrel
    have HD := Lib.hid hdone
    have HR := Lib.hid hroom
    clear hdone hroom
    have hGl : G < wr.heap.size := by omega
    by_cases hkn : k < N
    · have hkl : k < l.length := by have := HN.out; omega
      have d0 := (hb.cell (p := ⟨b, _, none⟩) hlt).trans (HI.out k _ (canAt_some hkl)).1
      have d1 := (hb.cell (p := ⟨b, _, none⟩) hlt).trans (HI.out k _ (canAt_some hkl)).2
      have hsm := HS.out.at hkl
      obtain ⟨x, hx⟩ : ∃ x, canAt l k = x := ⟨_, rfl⟩
      rw [hx] at d0 d1 hsm
      have HX := Lib.hid hx
      clear hx
      obtain ⟨n, s⟩ := x
      simp only at d0 d1 hsm
      obtain ⟨u0, e0'⟩ := Option.isSome_iff_exists.1 (HR.out (k * 2) (by omega)).1
      obtain ⟨u1, e1'⟩ := Option.isSome_iff_exists.1 (HR.out (k * 2 + 1) (by omega)).1
      have g0 := (HR.out (k * 2) (by omega)).2
      have g1 := (HR.out (k * 2 + 1) (by omega)).2
      have hbw : b < wr.heap.size := by omega
      go_wp2_with fail
      refine (fresh_any n s _ hsm).mono ?_
      rintro e w2 ⟨rfl, h2⟩
      have hb2 := ((Below.refl wr.heap.size wr).alloc (Nat.le_refl _) (.cells #[.int .i64 n, .string s] 29)).trans (h2.mono (by simp))
      have p0 := (hb2.cell (p := ⟨G, k * 2, none⟩) hGl).trans e0'
      have p1 := (hb2.cell (p := ⟨G, k * 2 + 1, none⟩) hGl).trans e1'
      have r0 := (hb2.frozen (p := ⟨G, k * 2, none⟩) hGl).trans g0
      have r1 := (hb2.frozen (p := ⟨G, k * 2 + 1, none⟩) hGl).trans g1
      have HB2 := Lib.hid hb2
      clear hb2 h2
      go_wp2_with fail
      go_roundw
      case rel =>
        have hb2 := HB2.out
        refine ⟨k + 1, by go_num, by omega, ((hb.trans (hb2.mono (by omega))).setCell (by simp; omega) _).setCell (by simp; omega) _, by have := hb2.size; simp; omega, fun j hj => ?_, fun j hj => ?_, ?_, ?_⟩
        · rcases Nat.lt_or_ge j k with h | h
          · rw [set2_other (by omega) (by omega), set2_other (by omega) (by omega)]
            exact ⟨(hb2.cell (p := ⟨G, _, none⟩) hGl).trans (HD.out j h).1, (hb2.cell (p := ⟨G, _, none⟩) hGl).trans (HD.out j h).2⟩
          · obtain rfl : j = k := by omega
            rw [HX.out]
            exact set2_same p0 p1
        · refine ⟨set2_some p0 p1 ?_, ?_⟩
          · rw [hb2.cell (p := ⟨G, j, none⟩) hGl]
            exact (HR.out j hj).1
          · rw [World.frozen?_setCell, World.frozen?_setCell, hb2.frozen (p := ⟨G, j, none⟩) hGl]
            exact (HR.out j hj).2
        · rw [World.cell?_setCell_other _ _ _ _ (by simp <;> omega), World.cell?_setCell_other _ _ _ _ (by simp <;> omega), hb2.cell (p := ⟨w.heap.size + 1, 0, none⟩) (by simp; omega)]
          exact q1
        · rw [World.frozen?_setCell, World.frozen?_setCell, hb2.frozen (p := ⟨w.heap.size + 1, 0, none⟩) (by simp; omega)]
          exact q2
      case measure => simp [intOf]; omega
    · have hge : N ≤ k := by omega
      go_wp2_with fail
      refine bodyPost_ret (v := .agg #[.slice (some ⟨G, 0, none⟩) N N]) (by simp [results, Try.results37, go_sem, q1]) rfl
        ⟨_, _, rfl, Nat.le_refl _, ?_, hb.setCell (by simp) _⟩
      refine NewIn.wide (lo := G) (hi := wr.heap.size) (NewIn.out (lo' := w.heap.size + 1) (hi' := w.heap.size + 2) (w := wr) ?_ ((Out.refl _ _ _).setCell (by simp) (by simp) _) (.inr (by omega))) (by omega) (by simp)
      exact .inr ⟨G, 0, rfl, Nat.le_refl _, hGl, hGl, fun j hj => by
        have := (HR.out j (by have := HN.out; omega)).2
        simpa using this, fun i x hx => by
        have hi : i < l.length := (List.getElem?_eq_some_iff.1 hx).1
        have := HD.out i (by have := HN.out; omega)
        rw [canAt_some hi] at hx
        obtain rfl := Option.some.inj hx
        simpa using this⟩
end Go.Proofs.Ytmfnbbjhaolhgaa
