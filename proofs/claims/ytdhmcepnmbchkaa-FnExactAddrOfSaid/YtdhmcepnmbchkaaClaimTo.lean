/- The laws' own size, copy, likeness, marks of numbers and of Claims. -/
import Derived.Test.YtdhmcepnmbchkaaClaimNew
import Derived.Test.YtdhmcepnmbchkaaTo
import Derived.Test.YtdhmcepnmbchkaaNumsTo
import Derived.Test.YtdhmcepnmbchkaaStep
namespace Go.Proofs.Ytdhmcepnmbchkaa
open Go.RowKit
set_option linter.unusedVariables false

/-- The marks that markInt64S writes. -/
def nmarks (k N : Nat) : List Int := (List.range N).map fun i => ((k + i : Nat) : Int)
theorem nmarks_length (k N : Nat) : (nmarks k N).length = N := by simp [nmarks]
theorem nmarks_at {k N i : Nat} {x : Int} (h : (nmarks k N)[i]? = some x) : i < N ∧ x = ((k + i : Nat) : Int) := by
  have hi : i < N := by have := (List.getElem?_eq_some_iff.1 h).1; rwa [nmarks_length] at this
  refine ⟨hi, ?_⟩
  unfold nmarks at h
  rw [List.getElem?_map, List.getElem?_range hi] at h
  exact (Option.some.inj h).symm
theorem nmarks_get {k N i : Nat} (h : i < N) : (nmarks k N)[i]? = some ((k + i : Nat) : Int) := by
  unfold nmarks
  rw [List.getElem?_map, List.getElem?_range h]
  rfl
theorem toInt64S_let (a : Option Addr) (cap : Nat) (l : List Int) (w : World) (h : NumsIn w a l) (hlen : l.length ≤ 1048576) :
    Calls Try.prog 93 #[.slice a l.length cap] w fun e w' => ∃ g, e = .returned (.slice (some ⟨g, 0, none⟩) l.length l.length) ∧ NumsNew w.heap.size w'.heap.size w' (some ⟨g, 0, none⟩) l ∧ Below w.heap.size w w' :=
  (toInt64S_new a cap l w h hlen).mono fun _ _ ⟨h1, h2, h3⟩ => ⟨_, h1, h2, h3⟩
set_option maxHeartbeats 2000000 in
theorem markInt64S_any {lo hi : Nat} (a : Option Addr) (cap : Nat) (l : List Int) (k : Nat) (w : World) (h : NumsNew lo hi w a l) (hk0 : 0 < k) (hk : k + l.length ≤ 8000000) :
    Calls Try.prog 104 #[.slice a l.length cap, .int .i64 (k : Int)] w fun e w' => e = .returned (.int .i64 ((k + l.length : Nat) : Int)) ∧ NumsNew lo hi w' a (nmarks k l.length) ∧ Out lo hi w w' := by
  obtain ⟨N, hN⟩ : ∃ N, l.length = N := ⟨_, rfl⟩
  rcases Nat.eq_zero_or_pos N with hN0 | hN0
  · rw [hN]
    subst hN0
    clear hN hk h
    go_enter Try.func104, Try.ntmps104
    go_wp2
    refine wp_loop_rounds 1 ?_
    rw [rounds_succ]; go_wp2
    go_ret
    exact ⟨rfl, .inl rfl, Out.refl _ _ _⟩
  rcases h with rfl | ⟨b, o, rfl, hlo, hhi, hlt, hf, hc⟩
  · simp at hN
    omega
  have HC := Lib.hid (show ∀ j, j < N → (w.cell? ⟨b, o + j, none⟩).isSome = true ∧ w.frozen? ⟨b, o + j, none⟩ = false from fun j hj => by
    refine ⟨?_, hf j (by omega)⟩
    rw [hc j _ (numAt_some (by omega))]
    rfl)
  rw [hN] at hk ⊢
  clear hc hf hN
  go_enter Try.func104, Try.ntmps104
  go_wp2
  go_loopw [1, 5] (fun u i wr => ∃ m : Nat, i = .int .i64 (m : Int) ∧ u = .int .i64 ((k + m : Nat) : Int) ∧ m ≤ N ∧ Out lo hi w wr ∧
    (∀ j, j < m → wr.cell? ⟨b, o + j, none⟩ = some (.int .i64 ((k + j : Nat) : Int))) ∧
    (∀ j, j < N → (wr.cell? ⟨b, o + j, none⟩).isSome = true ∧ wr.frozen? ⟨b, o + j, none⟩ = false)) (fun _ i _ => N - (intOf i).toNat)
  case atStart => exact ⟨0, rfl, rfl, by omega, Out.refl _ _ _, fun j hj => absurd hj (by omega), HC.out⟩
  case round =>
    obtain ⟨m, rfl, rfl, hm, hb, hdone, hroom⟩ := hrel
    have HD := Lib.hid hdone
    have HR := Lib.hid hroom
    have hsz := hb.size
    clear hdone hroom
    by_cases hmn : m < N
    · obtain ⟨u0, e0⟩ := Option.isSome_iff_exists.1 (HR.out m hmn).1
      have g0 := (HR.out m hmn).2
      have hbw : b < wr.heap.size := by omega
      obtain ⟨k2, hk2⟩ : ∃ k2, k + (m + 1) = k2 := ⟨_, rfl⟩
      have hw1 : IntKind.i64.wrap (((k + m : Nat) : Int) + 1) = (k2 : Int) := by rw [IntWalk.i64_in _ (by omega)]; omega
      have HK := Lib.hid hk2
      clear hk2
      obtain ⟨k0, hk0'⟩ : ∃ k0, k + m = k0 := ⟨_, rfl⟩
      have HK0 := Lib.hid hk0'
      rw [hk0'] at hw1 ⊢
      clear hk0'
      have hi1 : (0 : Int) ≤ (m : Int) := by omega
      have hi2 : (m : Int) < (N : Int) := by omega
      go_wp2
      go_roundw
      case rel =>
        refine ⟨m + 1, by go_num, by rw [HK.out], by omega, hb.setCell (p := ⟨b, o + m, none⟩) hlo hhi _, fun j hj => ?_, fun j hj => ?_⟩
        · rcases Nat.lt_or_ge j m with h | h
          · rw [World.cell?_setCell_other _ _ _ _ (by simp <;> omega)]
            exact HD.out j h
          · obtain rfl : j = m := by omega
            rw [HK0.out]
            exact World.cell?_setCell_same _ _ _ e0
        · refine ⟨?_, by rw [World.frozen?_setCell]; exact (HR.out j hj).2⟩
          by_cases q : j = m
          · subst q
            rw [World.cell?_setCell_same _ _ _ e0]
            rfl
          · rw [World.cell?_setCell_other _ _ _ _ (by simp <;> omega)]
            exact (HR.out j hj).1
      case measure => simp [intOf]; omega
    · have hge : N ≤ m := by omega
      have HR' := HR
      go_wp2
      go_ret
      exact ⟨by rw [show N = m by omega]; rfl, .inr ⟨b, o, rfl, hlo, hhi, by omega, fun j hj => (HR.out j (by rw [nmarks_length] at hj; exact hj)).2, fun i x hx => by
        obtain ⟨hi, rfl⟩ := nmarks_at hx
        exact HD.out i (by omega)⟩, hb⟩
set_option maxHeartbeats 2000000 in
theorem heldInt64S_any (a : Option Addr) (cap : Nat) (N : Nat) (k : Nat) (w : World) (h : NumsIn w a (nmarks k N)) (hk0 : 0 < k) (hk : k + N ≤ 8000000) :
    Calls Try.prog 106 #[.slice a N cap, .int .i64 (k : Int)] w fun e w' => e = .returned (.int .i64 ((k + N : Nat) : Int)) ∧ w = w' := by
  rcases Nat.eq_zero_or_pos N with hN0 | hN0
  · subst hN0
    clear h
    go_enter Try.func106, Try.ntmps106
    go_wp2
    refine wp_loop_rounds 1 ?_
    rw [rounds_succ]; go_wp2
    go_ret
    exact ⟨rfl, rfl⟩
  rcases h with h | ⟨b, o, rfl, hlt, hc⟩
  · have := nmarks_length k N
    rw [h] at this
    simp at this
    omega
  have HI := Lib.hid hc
  clear hc
  go_enter Try.func106, Try.ntmps106
  go_wp2
  go_loopw [1, 5] (fun u i wr => ∃ m : Nat, i = .int .i64 (m : Int) ∧ u = .int .i64 ((k + m : Nat) : Int) ∧ m ≤ N ∧ w = wr) (fun _ i _ => N - (intOf i).toNat)
  case atStart => exact ⟨0, rfl, rfl, by omega, rfl⟩
  case round =>
    obtain ⟨m, rfl, rfl, hm, rfl⟩ := hrel
    by_cases hmn : m < N
    · have d0 := HI.out m _ (nmarks_get hmn)
      obtain ⟨k2, hk2⟩ : ∃ k2, k + (m + 1) = k2 := ⟨_, rfl⟩
      have hw1 : IntKind.i64.wrap (((k + m : Nat) : Int) + 1) = (k2 : Int) := by rw [IntWalk.i64_in _ (by omega)]; omega
      have HK := Lib.hid hk2
      clear hk2
      generalize k + m = k0 at *
      have hi1 : (0 : Int) ≤ (m : Int) := by omega
      have hi2 : (m : Int) < (N : Int) := by omega
      go_wp2
      go_roundw
      case rel => exact ⟨m + 1, by go_num, by rw [HK.out], by omega, by first | rfl | trivial⟩
      case measure => simp [intOf]; omega
    · have hge : N ≤ m := by omega
      go_wp2
      go_ret
      exact ⟨by rw [show N = m by omega]; rfl, rfl⟩
/-- A zero answer's block, its fourteen cells stored one by one. -/
theorem row14 {w : World} {g : Nat} {T : TypeId} (v0 v1 v2 v3 v4 v5 v6 v7 v8 v9 v10 v11 v12 v13 : Value) (h : w.heap[g]? = some (.cells #[.int .i64 0, .int .i64 0, .int .i64 0, .int .i64 0, .int .i64 0, .int .i64 0, .int .i64 0, .bool false, .int .i64 0, .int .i64 0, .int .i64 0, .slice none 0 0, .bool false, .int .i64 0] T (0, 0))) :
    ((((((((((((((w.setCell ⟨g, 0, none⟩ v0).setCell ⟨g, 1, none⟩ v1).setCell ⟨g, 2, none⟩ v2).setCell ⟨g, 3, none⟩ v3).setCell ⟨g, 4, none⟩ v4).setCell ⟨g, 5, none⟩ v5).setCell ⟨g, 6, none⟩ v6).setCell ⟨g, 7, none⟩ v7).setCell ⟨g, 8, none⟩ v8).setCell ⟨g, 9, none⟩ v9).setCell ⟨g, 10, none⟩ v10).setCell ⟨g, 11, none⟩ v11).setCell ⟨g, 12, none⟩ v12).setCell ⟨g, 13, none⟩ v13).heap[g]? = some (.cells #[v0, v1, v2, v3, v4, v5, v6, v7, v8, v9, v10, v11, v12, v13] T (0, 0)) ∧ Out g (g + 1) w ((((((((((((((w.setCell ⟨g, 0, none⟩ v0).setCell ⟨g, 1, none⟩ v1).setCell ⟨g, 2, none⟩ v2).setCell ⟨g, 3, none⟩ v3).setCell ⟨g, 4, none⟩ v4).setCell ⟨g, 5, none⟩ v5).setCell ⟨g, 6, none⟩ v6).setCell ⟨g, 7, none⟩ v7).setCell ⟨g, 8, none⟩ v8).setCell ⟨g, 9, none⟩ v9).setCell ⟨g, 10, none⟩ v10).setCell ⟨g, 11, none⟩ v11).setCell ⟨g, 12, none⟩ v12).setCell ⟨g, 13, none⟩ v13) :=
  ⟨(show (w.setCells g 0 [v0, v1, v2, v3, v4, v5, v6, v7, v8, v9, v10, v11, v12, v13]).heap[g]? = _ from (by
    rw [← (show setAll #[.int .i64 0, .int .i64 0, .int .i64 0, .int .i64 0, .int .i64 0, .int .i64 0, .int .i64 0, .bool false, .int .i64 0, .int .i64 0, .int .i64 0, .slice none 0 0, .bool false, .int .i64 0] 0 [v0, v1, v2, v3, v4, v5, v6, v7, v8, v9, v10, v11, v12, v13] = #[v0, v1, v2, v3, v4, v5, v6, v7, v8, v9, v10, v11, v12, v13] by kernel_rfl)]
    exact heap_setCells g T _ w 0 _ h)), (show Out g (g + 1) w (w.setCells g 0 [v0, v1, v2, v3, v4, v5, v6, v7, v8, v9, v10, v11, v12, v13]) from out_setCells g _ w 0)⟩
end Go.Proofs.Ytdhmcepnmbchkaa
