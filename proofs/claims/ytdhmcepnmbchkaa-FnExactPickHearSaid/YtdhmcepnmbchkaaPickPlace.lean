/- Where among what is heard one stands, or would stand: slices.BinarySearchFunc. Nothing that was there is written. -/
import Derived.Test.YtdhmcepnmbchkaaPickImpl
namespace Go.Proofs.Ytdhmcepnmbchkaa
open Go.RowKit Go.Joins
set_option linter.unusedVariables false

def cmpP (a b : Int) : Int := if a < b then -1 else if b < a then 1 else 0
theorem cmpP_lt (a b : Int) : decide (cmpP a b < 0) = decide (a < b) := by
  unfold cmpP
  split
  · simp_all
  · split <;> simp_all
theorem cmpP_eq (a b : Int) : (cmpP a b == 0) = decide (a = b) := by
  unfold cmpP
  split
  · have : ¬ a = b := by omega
    simp [this]
  · split
    · have : ¬ a = b := by omega
      simp [this]
    · have : a = b := by omega
      simp [this]
theorem cmpNaNp_any (x : Int) (w : World) : Calls Try.prog 142 #[.int .i64 x] w fun e w' => e = .returned (.bool false) ∧ w = w' := by
  go_enter Try.func142, Try.ntmps142
  go_wp2
  go_ret
  exact ⟨by simp, rfl⟩
set_option maxHeartbeats 1000000 in
theorem cmpCmp_any (a b : Int) (w : World) :
    Calls Try.prog 133 #[.int .i64 a, .int .i64 b] w fun e w' => e = .returned (.int .i64 (cmpP a b)) ∧ w = w' := by
  by_cases h1 : a < b
  · have e : cmpP a b = -1 := by unfold cmpP; rw [if_pos h1]
    rw [e]
    have hd : decide (a < b) = true := decide_eq_true h1
    clear h1 e
    go_enter Try.func133, Try.ntmps133
    go_wp2_with (go_at_call 142; refine (cmpNaNp_any _ _).mono ?_; rintro e w' ⟨rfl, rfl⟩)
    go_ret
    exact ⟨rfl, rfl⟩
  · have hd : decide (a < b) = false := decide_eq_false h1
    by_cases h2 : b < a
    · have e : cmpP a b = 1 := by unfold cmpP; rw [if_neg h1, if_pos h2]
      rw [e]
      have hd2 : decide (b < a) = true := decide_eq_true h2
      clear h1 h2 e
      go_enter Try.func133, Try.ntmps133
      go_wp2_with (go_at_call 142; refine (cmpNaNp_any _ _).mono ?_; rintro e w' ⟨rfl, rfl⟩)
      go_ret
      exact ⟨rfl, rfl⟩
    · have e : cmpP a b = 0 := by unfold cmpP; rw [if_neg h1, if_neg h2]
      rw [e]
      have hd2 : decide (b < a) = false := decide_eq_false h2
      clear h1 h2 e
      go_enter Try.func133, Try.ntmps133
      go_wp2_with (go_at_call 142; refine (cmpNaNp_any _ _).mono ?_; rintro e w' ⟨rfl, rfl⟩)
      go_ret
      exact ⟨rfl, rfl⟩
set_option maxRecDepth 100000 in
set_option maxHeartbeats 8000000 in
theorem placeCmp_any (xs xn xg x : Int) (w : World) :
    Calls Try.prog 132 #[.agg #[.int .i64 xs, .int .i64 xn, .int .i64 xg], .int .i64 x] w fun e w' => e = .returned (.int .i64 (cmpP xs x)) ∧ Below w.heap.size w w' := by
  have HC := fun W => Lib.hid (cmpCmp_any xs x W)
  generalize cmpP xs x = V at *
  go_enter Try.func132, Try.ntmps132
  go_wp2_with (first
    | (refine wpList_box_h rfl 112 (.tmp 0) rfl #[.int .i64 xs, .int .i64 xn, .int .i64 xg] rfl ?_; intro w1 R1 e1 g1 b1; have HL1 := Lib.hid (show Lg w w1 [(R1, #[.int .i64 xs, .int .i64 xn, .int .i64 xg], 112)] [] from (Lg.first w).box e1 g1 b1); clear g1 b1 e1)
    | (refine wpList_load_one rfl 2 (.tmp 5) rfl (R1) 0 rfl 112 #[.int .i64 xs, .int .i64 xn, .int .i64 xg] (0, 0) (HL1.out.get (.head _)) (.int .i64 xs) rfl _ Try.underlying2 rfl (by kernel_rfl) ?_))
  refine (HC _).out.mono ?_
  rintro e w2 ⟨rfl, rfl⟩
  go_wp2_with fail
  go_ret
  exact ⟨rfl, HL1.out.below⟩
set_option maxRecDepth 100000 in
set_option maxHeartbeats 8000000 in
theorem place_any (a : Option Addr) (c : Nat) (q : List Hd) (x : Int) (w : World) (h : RsIn hdL 3 w a q) (hlen : q.length ≤ 1048576) (hs : ∀ i j, i < j → j < q.length → (hdAt q i).s < (hdAt q j).s) :
    Calls Try.prog 131 #[.slice a q.length c, .int .i64 x, .func (.func 132) #[] #[]] w fun e w' => e = .returned (.tuple #[.int .i64 (cntI (hdS q) x : Nat), .bool (decide ((hdS q)[cntI (hdS q) x]? = some x))]) ∧ Below w.heap.size w w' := by
  have HS := Lib.hid (show ∀ i j, i ≤ j → j < q.length → (hdAt q i).s ≤ (hdAt q j).s from fun i j h1 h2 => by
    rcases Nat.eq_or_lt_of_le h1 with rfl | h3
    · exact Int.le_refl _
    · exact Int.le_of_lt (hs i j h3 h2))
  have HE := Lib.hid (show ∀ i, i ≤ q.length → (∀ t, t < i → (hdAt q t).s < x) → (∀ t, i ≤ t → t < q.length → x ≤ (hdAt q t).s) → i = cntI (hdS q) x from fun i h1 h2 h3 => cntI_of (by rw [hdS_length]; exact h1) (fun j y hj hy => by
    rw [hdS_at (by omega)] at hy
    rw [← Option.some.inj hy]
    exact h2 j hj) (fun y hy => by
    have hl := (List.getElem?_eq_some_iff.1 hy).1
    rw [hdS_length] at hl
    rw [hdS_at hl] at hy
    rw [← Option.some.inj hy]
    have := h3 i (Nat.le_refl _) hl
    omega))
  obtain ⟨V, hV⟩ : ∃ V, Value.tuple #[.int .i64 (cntI (hdS q) x : Nat), .bool (decide ((hdS q)[cntI (hdS q) x]? = some x))] = V := ⟨_, rfl⟩
  have HV := Lib.hid hV
  rw [hV]
  clear hV
  obtain ⟨N, hN⟩ : ∃ N, q.length = N := ⟨_, rfl⟩
  rw [hN] at hlen HS HE ⊢
  have HN := Lib.hid hN
  have HI := Lib.hid h
  clear hN h hs
  go_enter Try.func131, Try.ntmps131
  go_wp2_with fail
  go_loopw [9, 10] (fun s7 s8 wr => ∃ i j : Nat, s7 = .int .i64 (i : Int) ∧ s8 = .int .i64 (j : Int) ∧ i ≤ j ∧ j ≤ N ∧ (∀ t, t < i → (hdAt q t).s < x) ∧ (∀ t, j ≤ t → t < N → x ≤ (hdAt q t).s) ∧ Below w.heap.size w wr) (fun s7 s8 _ => (intOf s8 - intOf s7).toNat)
  case atStart => exact ⟨0, N, rfl, rfl, Nat.zero_le _, Nat.le_refl _, fun t ht => absurd ht (Nat.not_lt_zero _), fun t h1 h2 => by omega, Below.refl _ _⟩
  case round =>
    obtain ⟨i, j, rfl, rfl, hij, hjN, h1, h2, hb⟩ := hrel
    have H1 := Lib.hid h1
    have H2 := Lib.hid h2
    clear h1 h2
    by_cases hlt : i < j
    · obtain ⟨b, o, ha, hltb, hc⟩ := HI.out.at (by have := HN.out; omega)
      obtain ⟨m, hm⟩ : ∃ m, (i + j) / 2 = m := ⟨_, rfl⟩
      have hmi : i ≤ m ∧ m < j := by omega
      have HCs := Lib.hid (fun k v hv => (hb.cell (p := ⟨b, _, none⟩) hltb).trans (hc m _ (hdAt_some (by have := HN.out; omega)) k v hv))
      clear hc
      subst ha
      have hw1 : IntKind.i64.wrap ((i : Int) + (j : Int)) = (i : Int) + (j : Int) := IntWalk.i64_in _ (by omega)
      have hw2 : IntKind.u64.wrap ((i : Int) + (j : Int)) = (i : Int) + (j : Int) := by rw [IntKind.wrap_u64]; omega
      have hm2 : ((i : Int) + (j : Int)) / 2 = (m : Int) := by omega
      have hw3 : IntKind.i64.wrap (m : Int) = (m : Int) := IntWalk.i64_in _ (by omega)
      have hi1 : (0 : Int) ≤ (m : Int) := by omega
      have hi2 : (m : Int) < (N : Int) := by omega
      obtain ⟨y, hy⟩ : ∃ y, hdAt q m = y := ⟨_, rfl⟩
      rw [hy] at HCs
      have HY := Lib.hid (show (hdAt q m).s = y.s by rw [hy])
      clear hy hm
      obtain ⟨ys, yn, yg⟩ := y
      unfold hdL at HCs
      dsimp only at *
      have hcp := cmpP_lt ys x
      have HCC := fun W => Lib.hid (placeCmp_any ys yn yg x W)
      generalize cmpP ys x = P at *
      by_cases hyx : ys < x
      · rw [decide_eq_true hyx] at hcp
        have HYX := Lib.hid hyx
        clear hyx
        go_wp2_with (first
          | (refine wpList_load_cells rfl 112 (.tmp 27) rfl b (o + m * 3) rfl [.int .i64 ys, .int .i64 yn, .int .i64 yg] HCs.out _ Try.underlying112 rfl (by kernel_rfl) ?_))
        refine (HCC _).out.mono ?_
        rintro e w2 ⟨rfl, h2⟩
        have hb2 := hb.trans (h2.mono hb.size)
        go_wp2_with fail
        go_roundw
        case rel =>
          refine ⟨m + 1, j, by go_num, rfl, by omega, hjN, fun t ht => ?_, H2.out, hb2⟩
          have h3 := HS.out t m (by omega) (by omega)
          rw [HY.out] at h3
          have := HYX.out
          omega
        case measure => simp [intOf]; omega
      · rw [decide_eq_false hyx] at hcp
        have HYX := Lib.hid hyx
        clear hyx
        go_wp2_with (first
          | (refine wpList_load_cells rfl 112 (.tmp 27) rfl b (o + m * 3) rfl [.int .i64 ys, .int .i64 yn, .int .i64 yg] HCs.out _ Try.underlying112 rfl (by kernel_rfl) ?_))
        refine (HCC _).out.mono ?_
        rintro e w2 ⟨rfl, h2⟩
        have hb2 := hb.trans (h2.mono hb.size)
        go_wp2_with fail
        go_roundw
        case rel =>
          refine ⟨i, m, rfl, by go_num, by omega, by omega, H1.out, fun t ht htn => ?_, hb2⟩
          have h3 := HS.out m t ht htn
          rw [HY.out] at h3
          have := HYX.out
          omega
        case measure => simp [intOf]; omega
    · have hji : j = i := by omega
      subst hji
      have HX := Lib.hid (HE.out j hjN H1.out H2.out)
      by_cases hn : j < N
      · obtain ⟨b, o, ha, hltb, hc⟩ := HI.out.at (by have := HN.out; omega)
        have hjl : j < q.length := by have := HN.out; omega
        have HCs := Lib.hid (fun k v hv => (hb.cell (p := ⟨b, _, none⟩) hltb).trans (hc j _ (hdAt_some hjl) k v hv))
        clear hc
        subst ha
        have hi1 : (0 : Int) ≤ (j : Int) := by omega
        have hi2 : (j : Int) < (N : Int) := by omega
        have HQ := Lib.hid (hdS_at hjl)
        generalize hdAt q j = y at *
        obtain ⟨ys, yn, yg⟩ := y
        unfold hdL at HCs
        dsimp only at *
        have hcp := cmpP_eq ys x
        have HCC := fun W => Lib.hid (placeCmp_any ys yn yg x W)
        generalize cmpP ys x = P at *
        have HF := Lib.hid (show V = .tuple #[.int .i64 (j : Int), .bool (decide (ys = x))] by rw [← HV.out, ← HX.out, HQ.out]; simp only [Option.some.injEq])
        generalize decide (ys = x) = D at *
        go_wp2_with (first
          | (refine wpList_load_cells rfl 112 (.tmp 43) rfl b (o + j * 3) rfl [.int .i64 ys, .int .i64 yn, .int .i64 yg] HCs.out _ Try.underlying112 rfl (by kernel_rfl) ?_))
        refine (HCC _).out.mono ?_
        rintro e w2 ⟨rfl, h2⟩
        go_wp2_with fail
        go_ret2
        exact ⟨by rw [HF.out] <;> rfl, hb.trans (h2.mono hb.size)⟩
      · have HF := Lib.hid (show V = .tuple #[.int .i64 (j : Int), .bool false] by
          rw [← HV.out, ← HX.out, List.getElem?_eq_none (by rw [hdS_length]; have := HN.out; omega)]
          rfl)
        go_wp2_with fail
        go_ret2
        exact ⟨by rw [HF.out] <;> rfl, hb⟩
set_option maxRecDepth 100000 in
set_option maxHeartbeats 8000000 in
theorem placeOf_any (a : Option Addr) (c : Nat) (q : List Hd) (x : Int) (w : World) (h : RsIn hdL 3 w a q) (hlen : q.length ≤ 1048576) (hs : ∀ i j, i < j → j < q.length → (hdAt q i).s < (hdAt q j).s) :
    Calls Try.prog 102 #[.slice a q.length c, .int .i64 x] w fun e w' => e = .returned (.tuple #[.int .i64 (cntI (hdS q) x : Nat), .bool (decide ((hdS q)[cntI (hdS q) x]? = some x))]) ∧ Below w.heap.size w w' := by
  have HP := Lib.hid (place_any a c q x w h hlen hs)
  generalize decide ((hdS q)[cntI (hdS q) x]? = some x) = D at *
  generalize cntI (hdS q) x = K at *
  generalize q.length = N at *
  clear h hlen hs
  go_enter Try.func102, Try.ntmps102
  go_wp2_with fail
  refine HP.out.mono ?_
  rintro e w2 ⟨rfl, h2⟩
  go_wp2_with fail
  go_ret2
  exact ⟨rfl, h2⟩
end Go.Proofs.Ytdhmcepnmbchkaa
