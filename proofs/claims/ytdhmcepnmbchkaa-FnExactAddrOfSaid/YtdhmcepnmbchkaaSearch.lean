/- Where a number stands among rising ones: slices.BinarySearch. Nothing that was there is written. -/
import Derived.Test.YtdhmcepnmbchkaaNumsTo
import Derived.Test.YtdhmcepnmbchkaaClaimMath
namespace Go.Proofs.Ytdhmcepnmbchkaa
open Go.RowKit Go.Joins
set_option linter.unusedVariables false

/-- Of rising numbers a later one is greater. -/
theorem riseB_lt {p : Int} {l : List Int} (h : riseB p l = true) : ∀ (i j : Nat) x y, i < j → l[i]? = some x → l[j]? = some y → x < y := by
  induction l generalizing p with
  | nil => intro i j x y _ hx; simp at hx
  | cons z r ih =>
    obtain ⟨h0, h1, h2⟩ := riseB_cons h
    intro i j x y hij hx hy
    rcases j with _ | j
    · omega
    have hy' : r[j]? = some y := by simpa using hy
    rcases i with _ | i
    · have hz : z = x := by simpa using hx
      subst hz
      exact (riseB_mem h2 y (List.mem_of_getElem? hy')).1
    · exact ih h2 i j x y (by omega) (by simpa using hx) hy'
theorem rise_at {p : Int} {l : List Int} (h : riseB p l = true) : ∀ i j, i ≤ j → j < l.length → numAt l i ≤ numAt l j := by
  intro i j hij hj
  rcases Nat.eq_or_lt_of_le hij with rfl | hlt
  · exact Int.le_refl _
  · exact Int.le_of_lt (riseB_lt h i j _ _ hlt (numAt_some (by omega)) (numAt_some hj))
/-- Where the look for x ends, there it stands, if it does. -/
theorem search_there {p : Int} {l : List Int} (h : riseB p l = true) (x : Int) (i : Nat) (hb : ∀ t, t < i → numAt l t < x) (ha : ∀ t, i ≤ t → t < l.length → x ≤ numAt l t) (hi : i ≤ l.length) :
    i = cntI l x ∧ decide (x ∈ l) = decide (i < l.length ∧ numAt l i = x) := by
  refine ⟨cntI_of hi (fun j y hj hy => ?_) (fun y hy => ?_), ?_⟩
  · have := hb j hj
    have hl := (List.getElem?_eq_some_iff.1 hy).1
    rw [numAt_some hl] at hy
    rw [← Option.some.inj hy]
    exact this
  · have hl := (List.getElem?_eq_some_iff.1 hy).1
    have := ha i (Nat.le_refl _) hl
    rw [numAt_some hl] at hy
    rw [← Option.some.inj hy]
    omega
  · refine decide_eq_decide.2 ⟨fun hx => ?_, fun ⟨hl, hx⟩ => ?_⟩
    · obtain ⟨j, hj⟩ := List.getElem?_of_mem hx
      have hl := (List.getElem?_eq_some_iff.1 hj).1
      rw [numAt_some hl] at hj
      have hj := Option.some.inj hj
      have hij : i ≤ j := by
        rcases Nat.lt_or_ge j i with h' | h'
        · have := hb j h'
          omega
        · exact h'
      have h1 := rise_at h i j hij hl
      have h2 := ha i (Nat.le_refl _) (by omega)
      exact ⟨by omega, by omega⟩
    · rw [← hx]
      exact List.mem_of_getElem? (numAt_some hl)

theorem cmpNaN_any (x : Int) (w : World) : Calls Try.prog 142 #[.int .i64 x] w fun e w' => e = .returned (.bool false) ∧ w = w' := by
  go_enter Try.func142, Try.ntmps142
  go_wp2
  go_ret
  exact ⟨by simp, rfl⟩
theorem isNaN_any (x : Int) (w : World) : Calls Try.prog 137 #[.int .i64 x] w fun e w' => e = .returned (.bool false) ∧ w = w' := by
  go_enter Try.func137, Try.ntmps137
  go_wp2
  go_ret
  exact ⟨by simp, rfl⟩
theorem cmpLess_any (x y : Int) (w : World) : Calls Try.prog 136 #[.int .i64 x, .int .i64 y] w fun e w' => e = .returned (.bool (decide (x < y))) ∧ w = w' := by
  go_enter Try.func136, Try.ntmps136
  go_wp2_with (go_at_call 142; refine (cmpNaN_any _ _).mono ?_; rintro e w' ⟨rfl, rfl⟩)
  go_ret
  exact ⟨rfl, rfl⟩
set_option maxRecDepth 100000 in
set_option maxHeartbeats 4000000 in
theorem search_any (a : Option Addr) (cap : Nat) (l : List Int) (p x : Int) (w : World) (h : NumsIn w a l) (hlen : l.length ≤ 1048576) (hs : riseB p l = true) :
    Calls Try.prog 109 #[.slice a l.length cap, .int .i64 x] w fun e w' => e = .returned (.tuple #[.int .i64 (cntI l x : Nat), .bool (decide (x ∈ l))]) ∧ w = w' := by
  have HS := Lib.hid (rise_at hs)
  have HE := Lib.hid (fun i h1 h2 h3 => search_there hs x i h1 h2 h3)
  obtain ⟨V, hV⟩ : ∃ V, Value.tuple #[.int .i64 (cntI l x : Nat), .bool (decide (x ∈ l))] = V := ⟨_, rfl⟩
  have HV := Lib.hid hV
  rw [hV]
  clear hV
  obtain ⟨N, hN⟩ : ∃ N, l.length = N := ⟨_, rfl⟩
  rw [hN] at hlen HS HE ⊢
  have HN := Lib.hid hN
  have HI := Lib.hid h
  clear hN h hs
  go_enter Try.func109, Try.ntmps109
  go_wp2_with fail
  go_loopw [7, 8] (fun s7 s8 wr => ∃ i j : Nat, s7 = .int .i64 (i : Int) ∧ s8 = .int .i64 (j : Int) ∧ i ≤ j ∧ j ≤ N ∧ (∀ t, t < i → numAt l t < x) ∧ (∀ t, j ≤ t → t < N → x ≤ numAt l t) ∧ w = wr) (fun s7 s8 _ => (intOf s8 - intOf s7).toNat)
  case atStart => exact ⟨0, N, rfl, rfl, Nat.zero_le _, Nat.le_refl _, fun t ht => absurd ht (Nat.not_lt_zero _), fun t h1 h2 => by omega, rfl⟩
  case round =>
    obtain ⟨i, j, rfl, rfl, hij, hjN, h1, h2, rfl⟩ := hrel
    have H1 := Lib.hid h1
    have H2 := Lib.hid h2
    clear h1 h2
    by_cases hlt : i < j
    · obtain ⟨b, o, rfl, hltb, hc⟩ := HI.out.at (by have := HN.out; omega)
      obtain ⟨m, hm⟩ : ∃ m, (i + j) / 2 = m := ⟨_, rfl⟩
      have hmi : i ≤ m ∧ m < j := by omega
      have d0 := hc m _ (numAt_some (by have := HN.out; omega))
      clear hc
      have hw1 : IntKind.i64.wrap ((i : Int) + (j : Int)) = (i : Int) + (j : Int) := IntWalk.i64_in _ (by omega)
      have hw2 : IntKind.u64.wrap ((i : Int) + (j : Int)) = (i : Int) + (j : Int) := by rw [IntKind.wrap_u64]; omega
      have hm2 : ((i : Int) + (j : Int)) / 2 = (m : Int) := by omega
      have hw3 : IntKind.i64.wrap (m : Int) = (m : Int) := IntWalk.i64_in _ (by omega)
      have hi1 : (0 : Int) ≤ (m : Int) := by omega
      have hi2 : (m : Int) < (N : Int) := by omega
      obtain ⟨y, hy⟩ : ∃ y, numAt l m = y := ⟨_, rfl⟩
      rw [hy] at d0
      have HY := Lib.hid hy
      clear hy hm
      by_cases hyx : y < x
      · have hd : decide (y < x) = true := decide_eq_true hyx
        go_wp2_with (first | (go_at_call 136; refine (cmpLess_any _ _ _).mono ?_; rintro e w' ⟨rfl, rfl⟩) | (go_at_call 137; refine (isNaN_any _ _).mono ?_; rintro e w' ⟨rfl, rfl⟩))
        go_roundw
        case rel =>
          refine ⟨m + 1, j, by go_num, rfl, by omega, hjN, fun t ht => ?_, H2.out, by first | rfl | trivial⟩
          have h3 := HS.out t m (by omega) (by omega)
          rw [HY.out] at h3
          omega
        case measure => simp [intOf]; omega
      · have hd : decide (y < x) = false := decide_eq_false hyx
        go_wp2_with (first | (go_at_call 136; refine (cmpLess_any _ _ _).mono ?_; rintro e w' ⟨rfl, rfl⟩) | (go_at_call 137; refine (isNaN_any _ _).mono ?_; rintro e w' ⟨rfl, rfl⟩))
        go_roundw
        case rel =>
          refine ⟨i, m, rfl, by go_num, by omega, by omega, H1.out, fun t ht htn => ?_, by first | rfl | trivial⟩
          have h3 := HS.out m t ht htn
          rw [HY.out] at h3
          omega
        case measure => simp [intOf]; omega
    · have hji : j = i := by omega
      subst hji
      have HX := Lib.hid (HE.out j H1.out H2.out hjN)
      by_cases hn : j < N
      · obtain ⟨b, o, rfl, hltb, hc⟩ := HI.out.at (by have := HN.out; omega)
        have d0 := hc j _ (numAt_some (by have := HN.out; omega))
        clear hc
        have hi1 : (0 : Int) ≤ (j : Int) := by omega
        have hi2 : (j : Int) < (N : Int) := by omega
        obtain ⟨y, hy⟩ : ∃ y, numAt l j = y := ⟨_, rfl⟩
        rw [hy] at d0
        have HY := Lib.hid hy
        clear hy
        by_cases hyx : y = x
        · have hd : (y == x) = true := by simpa using hyx
          have HF := Lib.hid (show V = .tuple #[.int .i64 (j : Int), .bool true] by rw [← HV.out, ← HX.out.1, HX.out.2, HY.out, decide_eq_true (show j < N ∧ y = x from ⟨hn, hyx⟩)])
          clear hyx
          go_wp2_with (first | (go_at_call 136; refine (cmpLess_any _ _ _).mono ?_; rintro e w' ⟨rfl, rfl⟩) | (go_at_call 137; refine (isNaN_any _ _).mono ?_; rintro e w' ⟨rfl, rfl⟩))
          go_ret2
          exact ⟨by rw [HF.out] <;> rfl, rfl⟩
        · have hd : (y == x) = false := by simpa using hyx
          have HF := Lib.hid (show V = .tuple #[.int .i64 (j : Int), .bool false] by rw [← HV.out, ← HX.out.1, HX.out.2, HY.out, decide_eq_false (show ¬ (j < N ∧ y = x) from fun h => hyx h.2)])
          clear hyx
          go_wp2_with (first | (go_at_call 136; refine (cmpLess_any _ _ _).mono ?_; rintro e w' ⟨rfl, rfl⟩) | (go_at_call 137; refine (isNaN_any _ _).mono ?_; rintro e w' ⟨rfl, rfl⟩))
          go_ret2
          exact ⟨by rw [HF.out] <;> rfl, rfl⟩
      · have HF := Lib.hid (show V = .tuple #[.int .i64 (j : Int), .bool false] by rw [← HV.out, ← HX.out.1, HX.out.2, decide_eq_false (show ¬ (j < N ∧ numAt l j = x) from fun h => hn h.1)])
        go_wp2_with (first | (go_at_call 136; refine (cmpLess_any _ _ _).mono ?_; rintro e w' ⟨rfl, rfl⟩) | (go_at_call 137; refine (isNaN_any _ _).mono ?_; rintro e w' ⟨rfl, rfl⟩))
        go_ret2
        exact ⟨by rw [HF.out] <;> rfl, rfl⟩
end Go.Proofs.Ytdhmcepnmbchkaa
