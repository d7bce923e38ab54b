/- Whether a Picker is right: the program's and the model's; where a number stands among others. Nothing that was there is written. -/
import Derived.Test.YtdhmcepnmbchkaaPickTo
import Derived.Test.YtdhmcepnmbchkaaPickMath
import Derived.Test.YtdhmcepnmbchkaaClaimRight
namespace Go.Proofs.Ytdhmcepnmbchkaa
open Go.RowKit
set_option linter.unusedVariables false

theorem rowAll {W0 W : World} {g : Nat} {row : List Value} {t : TypeId} (hg : W0.heap[g]? = some (.cells row.toArray t (0, 0))) (hW : Below W0.heap.size W0 W) : ∀ (j : Nat) v, row[j]? = some v → W.cell? ⟨g, 0 + j, none⟩ = some v :=
  fun j v hv => rowCells hg hW (0 + j) v (by rw [Nat.zero_add]; simpa using hv)
section
variable {P : Program} {ops : Array Oper} {rest : List Oper} {o : Oper} {a : Act} {w : World} {Q : Exit → Act → World → Prop}
/-- A load of one cell that is there. -/
theorem wpList_load_one1 (hgd : Region.wanted o (yielded ops a.tmps) = true) (ty : TypeId) (x : Operand) (ho : o.op = .load ty x) (g k : Nat) (hx : a.eval x = .pointer (some ⟨g, k, none⟩))
    (v : Value) (hv : w.cell? ⟨g, k, none⟩ = some v) (d : TypeDesc) (hu : P.underlying ty = some d) (hd : d.isRow = false)
    (h : wpList P ops Q rest (a.put o.dst v) w) : wpList P ops Q (o :: rest) a w :=
  BigFrame.wpList_want hgd fun _ hK => by
    have hagg : (isAgg ty).run P w = .ok false w := by
      unfold isAgg
      rw [Sem.run_bind, run_underlying hu w]
      cases d <;> simp_all
    have hrun : (loadVar ty ⟨g, k, none⟩).run P w = .ok v w := by
      simp [loadVar, Sem.run_bind, hagg, run_load, hv]
    unfold Oper.wp execOp
    simp only [ho, hx, Instr.loadAt, Instr.sureAddr, Sem.run_bind, Sem.run_pure, Result.andThen_ok, hrun]
    exact hK _ _ h
end
/-- Where the first one alike stands; -1 of none. -/
def rankF (x : Int) : List Int → Nat → Int
  | [], _ => -1
  | y :: r, k => if y = x then (k : Int) else rankF x r (k + 1)
def rankI (r : List Int) (x : Int) : Int := rankF x r 0
theorem numAt_cons (y : Int) (r : List Int) (t : Nat) : numAt (y :: r) (t + 1) = numAt r t := rfl
theorem rankF_is (x : Int) : ∀ (l : List Int) (k : Nat), (x ∉ l ∧ rankF x l k = -1) ∨ ∃ j, j < l.length ∧ numAt l j = x ∧ (∀ t, t < j → numAt l t ≠ x) ∧ rankF x l k = ((k + j : Nat) : Int) := by
  intro l
  induction l with
  | nil => intro k; left; exact ⟨by simp, rfl⟩
  | cons y r ih =>
    intro k
    by_cases h : y = x
    · right
      exact ⟨0, by simp, h, fun t ht => absurd ht (by omega), by unfold rankF; rw [if_pos h]; simp⟩
    · have e : rankF x (y :: r) k = rankF x r (k + 1) := by
        conv => lhs; unfold rankF
        rw [if_neg h]
      rw [e]
      rcases ih (k + 1) with ⟨h1, h2⟩ | ⟨j, h1, h2, h3, h4⟩
      · left
        exact ⟨by simp [h1, Ne.symm h], h2⟩
      · right
        refine ⟨j + 1, by simp; omega, h2, fun t ht => ?_, by rw [h4]; congr 1; omega⟩
        rcases t with _ | t
        · exact h
        · exact h3 t (by omega)
theorem mem_at {r : List Int} {x : Int} (h : x ∈ r) : ∃ i, i < r.length ∧ numAt r i = x := by
  obtain ⟨i, hi⟩ := List.getElem?_of_mem h
  have hl := (List.getElem?_eq_some_iff.1 hi).1
  rw [numAt_some hl] at hi
  exact ⟨i, hl, Option.some.inj hi⟩
theorem at_mem {r : List Int} {i : Nat} (h : i < r.length) : numAt r i ∈ r := List.mem_of_getElem? (numAt_some h)
theorem rankI_lt (r : List Int) (x : Int) : decide (rankI r x < 0) = !(decide (x ∈ r)) := by
  rcases rankF_is x r 0 with ⟨h1, h2⟩ | ⟨j, h1, h2, h3, h4⟩
  · unfold rankI
    rw [h2, decide_eq_false h1]
    rfl
  · unfold rankI
    have e : decide (x ∈ r) = true := decide_eq_true (by rw [← h2]; exact at_mem h1)
    rw [h4, e]
    exact decide_eq_false (by omega)
theorem rankI_ge (r : List Int) (x : Int) : decide (0 ≤ rankI r x) = decide (x ∈ r) := by
  have := rankI_lt r x
  by_cases h : rankI r x < 0
  · rw [decide_eq_true h] at this
    rw [decide_eq_false (by omega)]
    simpa using this
  · rw [decide_eq_false h] at this
    rw [decide_eq_true (by omega)]
    simpa using this
theorem take_mem {r : List Int} {i : Nat} {x : Int} (h : x ∈ r.take i) : ∃ j, j < i ∧ j < r.length ∧ numAt r j = x := by
  obtain ⟨j, hj⟩ := List.getElem?_of_mem h
  have hl := (List.getElem?_eq_some_iff.1 hj).1
  rw [List.length_take] at hl
  rw [List.getElem?_take, if_pos (by omega), numAt_some (by omega)] at hj
  exact ⟨j, by omega, by omega, Option.some.inj hj⟩
theorem mem_take {r : List Int} {i j : Nat} (h1 : j < i) (h2 : j < r.length) : numAt r j ∈ r.take i := by
  refine List.mem_of_getElem? (i := j) ?_
  rw [List.getElem?_take, if_pos h1, numAt_some h2]
theorem rankI_self {r : List Int} {i : Nat} (hi : i < r.length) : (rankI r (numAt r i) != (i : Int)) = decide (numAt r i ∈ r.take i) := by
  rcases rankF_is (numAt r i) r 0 with ⟨h1, _⟩ | ⟨j, h1, h2, h3, h4⟩
  · exact absurd (at_mem hi) h1
  · unfold rankI
    rw [h4, Nat.zero_add]
    by_cases hji : j < i
    · rw [decide_eq_true (by rw [← h2]; exact mem_take hji h1)]
      simp
      omega
    · have hij : ¬ i < j := fun q => h3 i q rfl
      obtain rfl : j = i := by omega
      rw [decide_eq_false (fun q => by
        obtain ⟨t, ht1, _, ht3⟩ := take_mem q
        exact h3 t ht1 ht3)]
      simp
set_option maxRecDepth 100000 in
set_option maxHeartbeats 8000000 in
theorem index_any (a : Option Addr) (c : Nat) (r : List Int) (x : Int) (w : World) (h : NumsIn w a r) (hlen : r.length ≤ maxLen) :
    Calls Try.prog 128 #[.slice a r.length c, .int .i64 x] w fun e w' => e = .returned (.int .i64 (rankI r x)) ∧ w = w' := by
  unfold maxLen at hlen
  obtain ⟨V, hV⟩ : ∃ V, rankI r x = V := ⟨_, rfl⟩
  have HV := Lib.hid (show rankF x (r.drop 0) 0 = V from hV)
  have HI := Lib.hid h
  obtain ⟨N, hN⟩ : ∃ N, r.length = N := ⟨_, rfl⟩
  have HN := Lib.hid hN
  rw [hN] at hlen ⊢
  rw [hV]
  clear h hN hV
  go_enter Try.func128, Try.ntmps128
  go_wp2_with fail
  go_loopw [5, 8] (fun _ i wr => ∃ k : Nat, i = .int .i64 (k : Int) ∧ k ≤ N ∧ rankF x (r.drop k) k = V ∧ w = wr) (fun _ i _ => N - (intOf i).toNat)
  case atStart => exact ⟨0, rfl, by omega, HV.out, rfl⟩
  case round =>
    obtain ⟨k, rfl, hk, hv, rfl⟩ := hrel
    have HK := Lib.hid hv
    clear hv
    by_cases hkn : k < N
    · have hkl : k < r.length := by have := HN.out; omega
      have hi1 : (0 : Int) ≤ (k : Int) := by omega
      have hi2 : (k : Int) < (N : Int) := by omega
      obtain ⟨b, o, rfl, hlt, hc⟩ := HI.out.at (by omega)
      have HC := Lib.hid (hc k _ (numAt_some hkl))
      have HD := Lib.hid (show r.drop k = numAt r k :: r.drop (k + 1) from by
        rw [List.drop_eq_getElem_cons hkl]
        have := numAt_some hkl
        rw [List.getElem?_eq_getElem hkl] at this
        rw [Option.some.inj this])
      clear hc
      generalize numAt r k = y at *
      by_cases hy : x = y
      · have hxy : (x == y) = true := by simp [hy]
        have HR := Lib.hid (show (k : Int) = V from by
          have := HK.out
          rw [HD.out] at this
          unfold rankF at this
          rwa [if_pos hy.symm] at this)
        clear hy
        go_wp2_with (first
          | (refine wpList_load_one1 rfl 2 (.tmp 14) rfl b (o + k) rfl (.int .i64 y) HC.out _ Try.underlying2 rfl ?_))
        go_ret
        exact ⟨by rw [← HR.out]; rfl, rfl⟩
      · have hxy : (x == y) = false := by simpa using hy
        have HR := Lib.hid (show rankF x (r.drop (k + 1)) (k + 1) = V from by
          have := HK.out
          rw [HD.out] at this
          unfold rankF at this
          rwa [if_neg (Ne.symm hy)] at this)
        clear hy
        go_wp2_with (first
          | (refine wpList_load_one1 rfl 2 (.tmp 14) rfl b (o + k) rfl (.int .i64 y) HC.out _ Try.underlying2 rfl ?_))
        go_roundw
        case rel => exact ⟨k + 1, by go_num, by omega, HR.out, by first | rfl | trivial⟩
        case measure => simp [intOf]; omega
    · have HR := Lib.hid (show (-1 : Int) = V from by
        have := HK.out
        rw [List.drop_eq_nil_of_le (by have := HN.out; omega)] at this
        exact this)
      go_wp2_with fail
      go_ret
      exact ⟨by rw [← HR.out]; rfl, rfl⟩
set_option maxRecDepth 100000 in
set_option maxHeartbeats 8000000 in
theorem contains_any (a : Option Addr) (c : Nat) (r : List Int) (x : Int) (w : World) (h : NumsIn w a r) (hlen : r.length ≤ maxLen) :
    Calls Try.prog 96 #[.slice a r.length c, .int .i64 x] w fun e w' => e = .returned (.bool (decide (x ∈ r))) ∧ w = w' := by
  have HX := Lib.hid (index_any a c r x w h hlen)
  have HG := Lib.hid (rankI_ge r x)
  obtain ⟨V, hV⟩ : ∃ V, decide (x ∈ r) = V := ⟨_, rfl⟩
  rw [hV] at HG ⊢
  generalize rankI r x = R at *
  obtain ⟨N, hN⟩ : ∃ N, r.length = N := ⟨_, rfl⟩
  rw [hN] at HX ⊢
  have hd := HG.out
  clear h hlen hV hN
  go_enter Try.func96, Try.ntmps96
  go_wp2_with fail
  refine HX.out.mono ?_
  rintro e w2 ⟨rfl, rfl⟩
  go_wp2_with fail
  go_ret
  exact ⟨rfl, rfl⟩
theorem l09Num_any (n : Int) (w : World) :
    Calls Try.prog 91 #[.int .i64 n] w fun e w' => e = .returned (.bool (inB (-2147483648) 2147483647 n)) ∧ w = w' := by
  go_enter Try.func91, Try.ntmps91
  go_wp2_with fail
  refine (l02Is_any _ _ _ _).mono ?_
  rintro e w2 ⟨rfl, rfl⟩
  go_wp2_with fail
  go_ret
  exact ⟨rfl, rfl⟩
theorem l02Time_any (n : Int) (w : World) :
    Calls Try.prog 92 #[.int .i64 n] w fun e w' => e = .returned (.bool (inB 0 1000000 n)) ∧ w = w' := by
  go_enter Try.func92, Try.ntmps92
  go_wp2_with fail
  refine (l02Is_any _ _ _ _).mono ?_
  rintro e w2 ⟨rfl, rfl⟩
  go_wp2_with fail
  go_ret
  exact ⟨rfl, rfl⟩
theorem mayBeTold_any (n : Int) (w : World) :
    Calls Try.prog 97 #[.int .i64 n] w fun e w' => e = .returned (.bool (inB (-2147483648) 2147483647 n)) ∧ w = w' := by
  by_cases h1 : -2147483648 ≤ n
  · by_cases h2 : n ≤ 2147483647
    · have e1 := inB_yes h1 h2
      have q1 : decide (-2147483648 ≤ n) = true := decide_eq_true h1
      have q2 : decide (n ≤ 2147483647) = true := decide_eq_true h2
      rw [e1]
      clear e1 h1 h2
      go_enter Try.func97, Try.ntmps97
      go_wp2_with fail
      go_ret
      exact ⟨rfl, rfl⟩
    · have e1 : inB (-2147483648) 2147483647 n = false := inB_no (fun q => h2 q.2)
      have q1 : decide (-2147483648 ≤ n) = true := decide_eq_true h1
      have q2 : decide (n ≤ 2147483647) = false := decide_eq_false h2
      rw [e1]
      clear e1 h1 h2
      go_enter Try.func97, Try.ntmps97
      go_wp2_with fail
      go_ret
      exact ⟨rfl, rfl⟩
  · have e1 : inB (-2147483648) 2147483647 n = false := inB_no (fun q => h1 q.1)
    have q1 : decide (-2147483648 ≤ n) = false := decide_eq_false h1
    rw [e1]
    clear e1 h1
    go_enter Try.func97, Try.ntmps97
    go_wp2_with fail
    go_ret
    exact ⟨rfl, rfl⟩
set_option maxRecDepth 100000 in
set_option maxHeartbeats 8000000 in
theorem l09Rank_any (a b : Option Addr) (c d M : Nat) (r : List Int) (x : Int) (w : World) (h : NumsIn w a r) (hlen : r.length ≤ maxLen) :
    Calls Try.prog 90 #[.agg #[.slice a r.length c, .slice b M d], .int .i64 x] w fun e w' => e = .returned (.int .i64 (rankI r x)) ∧ Below w.heap.size w w' := by
  unfold maxLen at hlen
  obtain ⟨V, hV⟩ : ∃ V, rankI r x = V := ⟨_, rfl⟩
  have HV := Lib.hid (show rankF x (r.drop 0) 0 = V from hV)
  have HI := Lib.hid h
  obtain ⟨N, hN⟩ : ∃ N, r.length = N := ⟨_, rfl⟩
  have HN := Lib.hid hN
  rw [hN] at hlen ⊢
  rw [hV]
  clear h hN hV
  go_enter Try.func90, Try.ntmps90
  go_wp2_with (first
    | (refine wpList_box_h rfl 67 (.tmp 0) rfl #[.slice a N c, .slice b M d] rfl ?_; intro w1 R1 e1 g1 b1; have HL1 := Lib.hid (show Lg w w1 [(R1, #[.slice a N c, .slice b M d], 67)] [] from (Lg.first w).box e1 g1 b1); clear g1 b1 e1))
  have hR1 := Lib.hid (HL1.out.get (.head _))
  have hB1 := HL1.out.below
  have HI1 := Lib.hid (HI.out.kept hB1)
  clear HL1 HI
  go_loopw [5] (fun i wr => ∃ k : Nat, i = .int .i64 (k : Int) ∧ k ≤ N ∧ rankF x (r.drop k) k = V ∧ w1 = wr) (fun i _ => N - (intOf i).toNat)
  case atStart => exact ⟨0, rfl, by omega, HV.out, rfl⟩
  case round =>
    obtain ⟨k, rfl, hk, hv, rfl⟩ := hrel
    have HK := Lib.hid hv
    clear hv
    by_cases hkn : k < N
    · have hkl : k < r.length := by have := HN.out; omega
      have hi1 : (0 : Int) ≤ (k : Int) := by omega
      have hi2 : (k : Int) < (N : Int) := by omega
      obtain ⟨B, o, rfl, hlt, hc⟩ := HI1.out.at (by omega)
      have HC := Lib.hid (hc k _ (numAt_some hkl))
      have HD := Lib.hid (show r.drop k = numAt r k :: r.drop (k + 1) from by
        rw [List.drop_eq_getElem_cons hkl]
        have := numAt_some hkl
        rw [List.getElem?_eq_getElem hkl] at this
        rw [Option.some.inj this])
      clear hc
      generalize numAt r k = y at *
      by_cases hy : y = x
      · have hxy : (y == x) = true := by simp [hy]
        have HR := Lib.hid (show (k : Int) = V from by
          have := HK.out
          rw [HD.out] at this
          unfold rankF at this
          rwa [if_pos hy] at this)
        clear hy
        go_wp2_with (first
          | (refine wpList_load_one rfl 25 (.tmp 7) rfl R1 0 rfl 67 #[.slice (some ⟨B, o, none⟩) N c, .slice b M d] (0, 0) hR1.out (.slice (some ⟨B, o, none⟩) N c) rfl _ Try.underlying25 rfl (by kernel_rfl) ?_)
          | (refine wpList_load_one rfl 25 (.tmp 13) rfl R1 0 rfl 67 #[.slice (some ⟨B, o, none⟩) N c, .slice b M d] (0, 0) hR1.out (.slice (some ⟨B, o, none⟩) N c) rfl _ Try.underlying25 rfl (by kernel_rfl) ?_)
          | (refine wpList_load_one1 rfl 2 (.tmp 16) rfl B (o + k) rfl (.int .i64 y) HC.out _ Try.underlying2 rfl ?_))
        go_ret
        exact ⟨by rw [← HR.out]; rfl, hB1⟩
      · have hxy : (y == x) = false := by simpa using hy
        have HR := Lib.hid (show rankF x (r.drop (k + 1)) (k + 1) = V from by
          have := HK.out
          rw [HD.out] at this
          unfold rankF at this
          rwa [if_neg hy] at this)
        clear hy
        go_wp2_with (first
          | (refine wpList_load_one rfl 25 (.tmp 7) rfl R1 0 rfl 67 #[.slice (some ⟨B, o, none⟩) N c, .slice b M d] (0, 0) hR1.out (.slice (some ⟨B, o, none⟩) N c) rfl _ Try.underlying25 rfl (by kernel_rfl) ?_)
          | (refine wpList_load_one rfl 25 (.tmp 13) rfl R1 0 rfl 67 #[.slice (some ⟨B, o, none⟩) N c, .slice b M d] (0, 0) hR1.out (.slice (some ⟨B, o, none⟩) N c) rfl _ Try.underlying25 rfl (by kernel_rfl) ?_)
          | (refine wpList_load_one1 rfl 2 (.tmp 16) rfl B (o + k) rfl (.int .i64 y) HC.out _ Try.underlying2 rfl ?_))
        go_roundw
        case rel => exact ⟨k + 1, by go_num, by omega, HR.out, by first | rfl | trivial⟩
        case measure => simp [intOf]; omega
    · have HR := Lib.hid (show (-1 : Int) = V from by
        have := HK.out
        rw [List.drop_eq_nil_of_le (by have := HN.out; omega)] at this
        exact this)
      go_wp2_with (first
        | (refine wpList_load_one rfl 25 (.tmp 7) rfl R1 0 rfl 67 #[.slice a N c, .slice b M d] (0, 0) hR1.out (.slice a N c) rfl _ Try.underlying25 rfl (by kernel_rfl) ?_))
      go_ret
      exact ⟨by rw [← HR.out]; rfl, hB1⟩
set_option maxRecDepth 100000 in
set_option maxHeartbeats 8000000 in
theorem specPickerRight_any (a b : Option Addr) (c d : Nat) (r : List Int) (q : List Hd) (w : World) (h1 : NumsIn w a r) (h2 : RsIn hdL 3 w b q) (hr : r.length ≤ maxLen) (hq : q.length ≤ maxLen) :
    Calls Try.prog 42 #[.agg #[.slice a r.length c, .slice b q.length d]] w fun e w' => e = .returned (.bool (pkB r q)) ∧ Below w.heap.size w w' := by
  have hr' := hr
  unfold maxLen at hr hq
  have HRk := fun W x a b c d M hW => Lib.hid (l09Rank_any a b c d M r x W hW hr')
  obtain ⟨V, hV⟩ : ∃ V, pkB r q = V := ⟨_, rfl⟩
  have HVr := Lib.hid (fun k => hV.symm.trans (@pkB_ranks r q k))
  have HVl := Lib.hid (fun k => hV.symm.trans (@pkB_long r q k))
  have HVi := Lib.hid (fun i hi k => hV.symm.trans (@pkB_rank r q i hi k))
  have HVh := Lib.hid (fun i hi k => hV.symm.trans (@pkB_heard r q i hi k))
  have HVy := Lib.hid (fun k1 k2 k3 => hV.symm.trans (@pkB_yes r q k1 k2 k3))
  rw [hV]
  have HI := Lib.hid h1
  have HJ := Lib.hid h2
  clear hV h1 h2 hr'
  obtain ⟨N, hN⟩ : ∃ N, r.length = N := ⟨_, rfl⟩
  obtain ⟨M, hM⟩ : ∃ M, q.length = M := ⟨_, rfl⟩
  have HN := Lib.hid hN
  have HM := Lib.hid hM
  rw [hN] at hr HRk ⊢
  rw [hM] at hq ⊢
  clear hN hM
  by_cases g1 : 5 < N
  · have hd : decide (5 < (N : Int)) = true := decide_eq_true (by omega)
    have hv := HVr.out (by have := HN.out; omega)
    go_enter Try.func42, Try.ntmps42
    go_wp2_with (first
      | (refine wpList_box_h rfl 67 (.tmp 0) rfl #[.slice a N c, .slice b M d] rfl ?_; intro w1 R1 e1 g1 b1; have HL1 := Lib.hid (show Lg w w1 [(R1, #[.slice a N c, .slice b M d], 67)] [] from (Lg.first w).box e1 g1 b1); clear g1 b1 e1)
      | (refine wpList_load_one rfl 25 (.tmp 6) rfl (R1) 0 rfl 67 #[.slice a N c, .slice b M d] (0, 0) (HL1.out.get (.head _)) (.slice a N c) rfl _ Try.underlying25 rfl (by kernel_rfl) ?_))
    go_ret
    exact ⟨by rw [hv]; rfl, HL1.out.below⟩
  have hd : decide (5 < (N : Int)) = false := decide_eq_false (by omega)
  by_cases g2 : 5 < M
  · have hd2 : decide (5 < (M : Int)) = true := decide_eq_true (by omega)
    have hv := HVl.out (by have := HM.out; omega)
    go_enter Try.func42, Try.ntmps42
    go_wp2_with (first
      | (refine wpList_box_h rfl 67 (.tmp 0) rfl #[.slice a N c, .slice b M d] rfl ?_; intro w1 R1 e1 g1 b1; have HL1 := Lib.hid (show Lg w w1 [(R1, #[.slice a N c, .slice b M d], 67)] [] from (Lg.first w).box e1 g1 b1); clear g1 b1 e1)
      | (refine wpList_load_one rfl 25 (.tmp 6) rfl (R1) 0 rfl 67 #[.slice a N c, .slice b M d] (0, 0) (HL1.out.get (.head _)) (.slice a N c) rfl _ Try.underlying25 rfl (by kernel_rfl) ?_)
      | (refine wpList_load_one rfl 65 (.tmp 11) rfl (R1) 1 rfl 67 #[.slice a N c, .slice b M d] (0, 0) (HL1.out.get (.head _)) (.slice b M d) rfl _ Try.underlying65 rfl (by kernel_rfl) ?_))
    go_ret
    exact ⟨by rw [hv]; rfl, HL1.out.below⟩
  have hd2 : decide (5 < (M : Int)) = false := decide_eq_false (by omega)
  go_enter Try.func42, Try.ntmps42
  go_wp2_with (first
    | (refine wpList_box_h rfl 67 (.tmp 0) rfl #[.slice a N c, .slice b M d] rfl ?_; intro w1 R1 e1 g1 b1; have HL1 := Lib.hid (show Lg w w1 [(R1, #[.slice a N c, .slice b M d], 67)] [] from (Lg.first w).box e1 g1 b1); clear g1 b1 e1)
    | (refine wpList_load_one rfl 25 (.tmp 6) rfl (R1) 0 rfl 67 #[.slice a N c, .slice b M d] (0, 0) (HL1.out.get (.head _)) (.slice a N c) rfl _ Try.underlying25 rfl (by kernel_rfl) ?_)
    | (refine wpList_load_one rfl 65 (.tmp 11) rfl (R1) 1 rfl 67 #[.slice a N c, .slice b M d] (0, 0) (HL1.out.get (.head _)) (.slice b M d) rfl _ Try.underlying65 rfl (by kernel_rfl) ?_))
  have HRB := Lib.hid (HL1.out.get (.head _))
  have HB1 := Lib.hid HL1.out.below
  have HI1 := Lib.hid (HI.out.kept HB1.out)
  have HJ1 := Lib.hid (HJ.out.kept HB1.out)
  clear HL1 HI HJ
  go_loopw [3] (fun i wr => ∃ k : Nat, i = .int .i64 (k : Int) ∧ k ≤ N ∧ (∀ j, j < k → rankAt r j = true) ∧ Below w1.heap.size w1 wr) (fun i _ => N - (intOf i).toNat)
  case atStart => exact ⟨0, rfl, by omega, fun j hj => absurd hj (by omega), Below.refl _ _⟩
  case round =>
    obtain ⟨k, rfl, hk, hall, hb⟩ := hrel
    have HA := Lib.hid hall
    have HR1 := Lib.hid ((hb.block R1 (Array.getElem?_eq_some_iff.1 HRB.out).1).trans HRB.out)
    clear hall
    by_cases hkn : k < N
    · have hkl : k < r.length := by have := HN.out; omega
      have hi1 : (0 : Int) ≤ (k : Int) := by omega
      have hi2 : (k : Int) < (N : Int) := by omega
      obtain ⟨B, o, ha, hlt, hc⟩ := HI1.out.at (by omega)
      have lB : B < wr.heap.size := Nat.lt_of_lt_of_le hlt hb.size
      have HC := Lib.hid ((hb.cell (p := ⟨B, o + k, none⟩) hlt).trans (hc k _ (numAt_some hkl)))
      have HNi := Lib.hid (fun (W : World) (hW : Below wr.heap.size wr W) => (HI1.out.kept hb).kept hW)
      have HE := Lib.hid (show rankAt r k = (inB 0 251 (numAt r k) && !(rankI r (numAt r k) != (k : Int))) by rw [rankI_self hkl]; rfl)
      have HNo := Lib.hid (HVi.out k hkl)
      have HRx := fun W hW => Lib.hid ((HRk W (numAt r k) a b c d M hW).out)
      clear hc
      subst ha
      generalize numAt r k = x at *
      generalize rankI r x = rk at *
      go_wp2_with (first
        | (refine wpList_load_one rfl 25 (.tmp 17) rfl R1 0 rfl 67 #[.slice (some ⟨B, o, none⟩) N c, .slice b M d] (0, 0) HR1.out (.slice (some ⟨B, o, none⟩) N c) rfl _ Try.underlying25 rfl (by kernel_rfl) ?_))
      rcases c1 : inB 0 251 x
      · have hv := HNo.out (by rw [HE.out, c1]; rfl)
        refine wp_region_quiet (C := fun W => Below wr.heap.size wr W) (by kernel_rfl) (by kernel_rfl) (Below.refl _ _).drew ?_
        dsimp only
        go_big_quiet_want; go_big_quiet_op; first | go_big_quiet_on | (refine ⟨_, fun _ _ => rfl, ?_⟩; go_big_quiet_on)
        go_big_quiet_want; refine ⟨.slice (some ⟨B, o, none⟩) N c, fun W hW => (quietLoadOne 25 (.tmp 23) rfl R1 0 rfl _ (rowCells HR1.out hW 0 _ rfl) _ Try.underlying25 rfl), ?_⟩; simp only [Act.put, List.setIfInBounds_toArray, List.set_cons_zero, List.set_cons_succ]; go_big_quiet_on
        go_big_quiet_want; go_big_quiet_op; first | go_big_quiet_on | (refine ⟨_, fun _ _ => rfl, ?_⟩; go_big_quiet_on)
        go_big_quiet_want; go_big_quiet_op; first | go_big_quiet_on | (refine ⟨_, fun _ _ => rfl, ?_⟩; go_big_quiet_on)
        go_big_quiet_want; refine ⟨.int .i64 x, fun W hW => (quietLoadOne 2 (.tmp 26) rfl B (o + k) rfl (.int .i64 x) ((hW.cell (p := ⟨B, o + k, none⟩) lB).trans HC.out) _ Try.underlying2 rfl), ?_⟩; simp only [Act.put, List.setIfInBounds_toArray, List.set_cons_zero, List.set_cons_succ]; go_big_quiet_on
        go_big_quiet_want; go_big_quiet_op; refine ⟨_, fun W hW => (by have := quietSame hW (l05Addr_any x W); rw [c1] at this; exact this), ?_⟩; go_big_quiet_on
        go_big_quiet_want; go_big_quiet_op; first | go_big_quiet_on | (refine ⟨_, fun _ _ => rfl, ?_⟩; go_big_quiet_on)
        go_big_quiet_want; go_big_quiet_op; first | go_big_quiet_on | (refine ⟨_, fun _ _ => rfl, ?_⟩; go_big_quiet_on)
        first | go_big_quiet_skip | (go_big_quiet_want; refine ⟨.agg #[.slice (some ⟨B, o, none⟩) N c, .slice b M d], fun W hW => (quietLoadCells 67 (.tmp 1) rfl R1 0 rfl [.slice (some ⟨B, o, none⟩) N c, .slice b M d] (rowAll HR1.out hW) _ Try.underlying67 rfl (by kernel_rfl)), ?_⟩; simp only [Act.put, List.setIfInBounds_toArray, List.set_cons_zero, List.set_cons_succ]; go_big_quiet_on)
        first | go_big_quiet_skip | (go_big_quiet_want; go_big_quiet_op; first | go_big_quiet_on | (refine ⟨_, fun _ _ => rfl, ?_⟩; go_big_quiet_on))
        first | go_big_quiet_skip | (go_big_quiet_want; refine ⟨.slice (some ⟨B, o, none⟩) N c, fun W hW => (quietLoadOne 25 (.tmp 32) rfl R1 0 rfl _ (rowCells HR1.out hW 0 _ rfl) _ Try.underlying25 rfl), ?_⟩; simp only [Act.put, List.setIfInBounds_toArray, List.set_cons_zero, List.set_cons_succ]; go_big_quiet_on)
        first | go_big_quiet_skip | (go_big_quiet_want; go_big_quiet_op; first | go_big_quiet_on | (refine ⟨_, fun _ _ => rfl, ?_⟩; go_big_quiet_on))
        first | go_big_quiet_skip | (go_big_quiet_want; go_big_quiet_op; first | go_big_quiet_on | (refine ⟨_, fun _ _ => rfl, ?_⟩; go_big_quiet_on))
        first | go_big_quiet_skip | (go_big_quiet_want; refine ⟨.int .i64 x, fun W hW => (quietLoadOne 2 (.tmp 35) rfl B (o + k) rfl (.int .i64 x) ((hW.cell (p := ⟨B, o + k, none⟩) lB).trans HC.out) _ Try.underlying2 rfl), ?_⟩; simp only [Act.put, List.setIfInBounds_toArray, List.set_cons_zero, List.set_cons_succ]; go_big_quiet_on)
        first | go_big_quiet_skip | (go_big_quiet_want; go_big_quiet_op; refine ⟨_, fun W hW => quietCall hW (HRx W (HNi.out W hW)).out, ?_⟩; go_big_quiet_on)
        first | go_big_quiet_skip | (go_big_quiet_want; go_big_quiet_op; first | go_big_quiet_on | (refine ⟨_, fun _ _ => rfl, ?_⟩; go_big_quiet_on))
        first | go_big_quiet_skip | (go_big_quiet_want; go_big_quiet_op; first | go_big_quiet_on | (refine ⟨_, fun _ _ => rfl, ?_⟩; go_big_quiet_on))
        go_big_quiet_want; go_big_quiet_op; first | go_big_quiet_on | (refine ⟨_, fun _ _ => rfl, ?_⟩; go_big_quiet_on)
        refine wpQuiet_nil ?_
        intro X hX
        go_wp2_with fail
        go_ret
        exact ⟨by rw [hv]; rfl, HB1.out.trans ((hb.trans (hX.mono hb.size)).mono HB1.out.size)⟩
      · rcases c2 : (rk != (k : Int))
        · have HT := Lib.hid (show rankAt r k = true by rw [HE.out, c1, c2]; rfl)
          refine wp_region_quiet (C := fun W => Below wr.heap.size wr W) (by kernel_rfl) (by kernel_rfl) (Below.refl _ _).drew ?_
          dsimp only
          go_big_quiet_want; go_big_quiet_op; first | go_big_quiet_on | (refine ⟨_, fun _ _ => rfl, ?_⟩; go_big_quiet_on)
          go_big_quiet_want; refine ⟨.slice (some ⟨B, o, none⟩) N c, fun W hW => (quietLoadOne 25 (.tmp 23) rfl R1 0 rfl _ (rowCells HR1.out hW 0 _ rfl) _ Try.underlying25 rfl), ?_⟩; simp only [Act.put, List.setIfInBounds_toArray, List.set_cons_zero, List.set_cons_succ]; go_big_quiet_on
          go_big_quiet_want; go_big_quiet_op; first | go_big_quiet_on | (refine ⟨_, fun _ _ => rfl, ?_⟩; go_big_quiet_on)
          go_big_quiet_want; go_big_quiet_op; first | go_big_quiet_on | (refine ⟨_, fun _ _ => rfl, ?_⟩; go_big_quiet_on)
          go_big_quiet_want; refine ⟨.int .i64 x, fun W hW => (quietLoadOne 2 (.tmp 26) rfl B (o + k) rfl (.int .i64 x) ((hW.cell (p := ⟨B, o + k, none⟩) lB).trans HC.out) _ Try.underlying2 rfl), ?_⟩; simp only [Act.put, List.setIfInBounds_toArray, List.set_cons_zero, List.set_cons_succ]; go_big_quiet_on
          go_big_quiet_want; go_big_quiet_op; refine ⟨_, fun W hW => (by have := quietSame hW (l05Addr_any x W); rw [c1] at this; exact this), ?_⟩; go_big_quiet_on
          go_big_quiet_want; go_big_quiet_op; first | go_big_quiet_on | (refine ⟨_, fun _ _ => rfl, ?_⟩; go_big_quiet_on)
          go_big_quiet_want; go_big_quiet_op; first | go_big_quiet_on | (refine ⟨_, fun _ _ => rfl, ?_⟩; go_big_quiet_on)
          first | go_big_quiet_skip | (go_big_quiet_want; refine ⟨.agg #[.slice (some ⟨B, o, none⟩) N c, .slice b M d], fun W hW => (quietLoadCells 67 (.tmp 1) rfl R1 0 rfl [.slice (some ⟨B, o, none⟩) N c, .slice b M d] (rowAll HR1.out hW) _ Try.underlying67 rfl (by kernel_rfl)), ?_⟩; simp only [Act.put, List.setIfInBounds_toArray, List.set_cons_zero, List.set_cons_succ]; go_big_quiet_on)
          first | go_big_quiet_skip | (go_big_quiet_want; go_big_quiet_op; first | go_big_quiet_on | (refine ⟨_, fun _ _ => rfl, ?_⟩; go_big_quiet_on))
          first | go_big_quiet_skip | (go_big_quiet_want; refine ⟨.slice (some ⟨B, o, none⟩) N c, fun W hW => (quietLoadOne 25 (.tmp 32) rfl R1 0 rfl _ (rowCells HR1.out hW 0 _ rfl) _ Try.underlying25 rfl), ?_⟩; simp only [Act.put, List.setIfInBounds_toArray, List.set_cons_zero, List.set_cons_succ]; go_big_quiet_on)
          first | go_big_quiet_skip | (go_big_quiet_want; go_big_quiet_op; first | go_big_quiet_on | (refine ⟨_, fun _ _ => rfl, ?_⟩; go_big_quiet_on))
          first | go_big_quiet_skip | (go_big_quiet_want; go_big_quiet_op; first | go_big_quiet_on | (refine ⟨_, fun _ _ => rfl, ?_⟩; go_big_quiet_on))
          first | go_big_quiet_skip | (go_big_quiet_want; refine ⟨.int .i64 x, fun W hW => (quietLoadOne 2 (.tmp 35) rfl B (o + k) rfl (.int .i64 x) ((hW.cell (p := ⟨B, o + k, none⟩) lB).trans HC.out) _ Try.underlying2 rfl), ?_⟩; simp only [Act.put, List.setIfInBounds_toArray, List.set_cons_zero, List.set_cons_succ]; go_big_quiet_on)
          first | go_big_quiet_skip | (go_big_quiet_want; go_big_quiet_op; refine ⟨_, fun W hW => quietCall hW (HRx W (HNi.out W hW)).out, ?_⟩; go_big_quiet_on)
          first | go_big_quiet_skip | (go_big_quiet_want; go_big_quiet_op; first | go_big_quiet_on | (refine ⟨_, fun _ _ => rfl, ?_⟩; go_big_quiet_on))
          first | go_big_quiet_skip | (go_big_quiet_want; go_big_quiet_op; first | go_big_quiet_on | (refine ⟨_, fun _ _ => rfl, ?_⟩; go_big_quiet_on))
          go_big_quiet_want; go_big_quiet_op; first | go_big_quiet_on | (refine ⟨_, fun _ _ => rfl, ?_⟩; go_big_quiet_on)
          refine wpQuiet_nil ?_
          intro X hX
          go_wp2_with fail
          go_roundw
          case rel => exact ⟨k + 1, by go_num, by omega, fun j hj => (Nat.lt_or_ge j k).elim (HA.out j) (fun g => (show j = k by omega) ▸ HT.out), hb.trans (hX.mono hb.size)⟩
          case measure => simp [intOf]; omega
        · have hv := HNo.out (by rw [HE.out, c1, c2]; rfl)
          refine wp_region_quiet (C := fun W => Below wr.heap.size wr W) (by kernel_rfl) (by kernel_rfl) (Below.refl _ _).drew ?_
          dsimp only
          go_big_quiet_want; go_big_quiet_op; first | go_big_quiet_on | (refine ⟨_, fun _ _ => rfl, ?_⟩; go_big_quiet_on)
          go_big_quiet_want; refine ⟨.slice (some ⟨B, o, none⟩) N c, fun W hW => (quietLoadOne 25 (.tmp 23) rfl R1 0 rfl _ (rowCells HR1.out hW 0 _ rfl) _ Try.underlying25 rfl), ?_⟩; simp only [Act.put, List.setIfInBounds_toArray, List.set_cons_zero, List.set_cons_succ]; go_big_quiet_on
          go_big_quiet_want; go_big_quiet_op; first | go_big_quiet_on | (refine ⟨_, fun _ _ => rfl, ?_⟩; go_big_quiet_on)
          go_big_quiet_want; go_big_quiet_op; first | go_big_quiet_on | (refine ⟨_, fun _ _ => rfl, ?_⟩; go_big_quiet_on)
          go_big_quiet_want; refine ⟨.int .i64 x, fun W hW => (quietLoadOne 2 (.tmp 26) rfl B (o + k) rfl (.int .i64 x) ((hW.cell (p := ⟨B, o + k, none⟩) lB).trans HC.out) _ Try.underlying2 rfl), ?_⟩; simp only [Act.put, List.setIfInBounds_toArray, List.set_cons_zero, List.set_cons_succ]; go_big_quiet_on
          go_big_quiet_want; go_big_quiet_op; refine ⟨_, fun W hW => (by have := quietSame hW (l05Addr_any x W); rw [c1] at this; exact this), ?_⟩; go_big_quiet_on
          go_big_quiet_want; go_big_quiet_op; first | go_big_quiet_on | (refine ⟨_, fun _ _ => rfl, ?_⟩; go_big_quiet_on)
          go_big_quiet_want; go_big_quiet_op; first | go_big_quiet_on | (refine ⟨_, fun _ _ => rfl, ?_⟩; go_big_quiet_on)
          first | go_big_quiet_skip | (go_big_quiet_want; refine ⟨.agg #[.slice (some ⟨B, o, none⟩) N c, .slice b M d], fun W hW => (quietLoadCells 67 (.tmp 1) rfl R1 0 rfl [.slice (some ⟨B, o, none⟩) N c, .slice b M d] (rowAll HR1.out hW) _ Try.underlying67 rfl (by kernel_rfl)), ?_⟩; simp only [Act.put, List.setIfInBounds_toArray, List.set_cons_zero, List.set_cons_succ]; go_big_quiet_on)
          first | go_big_quiet_skip | (go_big_quiet_want; go_big_quiet_op; first | go_big_quiet_on | (refine ⟨_, fun _ _ => rfl, ?_⟩; go_big_quiet_on))
          first | go_big_quiet_skip | (go_big_quiet_want; refine ⟨.slice (some ⟨B, o, none⟩) N c, fun W hW => (quietLoadOne 25 (.tmp 32) rfl R1 0 rfl _ (rowCells HR1.out hW 0 _ rfl) _ Try.underlying25 rfl), ?_⟩; simp only [Act.put, List.setIfInBounds_toArray, List.set_cons_zero, List.set_cons_succ]; go_big_quiet_on)
          first | go_big_quiet_skip | (go_big_quiet_want; go_big_quiet_op; first | go_big_quiet_on | (refine ⟨_, fun _ _ => rfl, ?_⟩; go_big_quiet_on))
          first | go_big_quiet_skip | (go_big_quiet_want; go_big_quiet_op; first | go_big_quiet_on | (refine ⟨_, fun _ _ => rfl, ?_⟩; go_big_quiet_on))
          first | go_big_quiet_skip | (go_big_quiet_want; refine ⟨.int .i64 x, fun W hW => (quietLoadOne 2 (.tmp 35) rfl B (o + k) rfl (.int .i64 x) ((hW.cell (p := ⟨B, o + k, none⟩) lB).trans HC.out) _ Try.underlying2 rfl), ?_⟩; simp only [Act.put, List.setIfInBounds_toArray, List.set_cons_zero, List.set_cons_succ]; go_big_quiet_on)
          first | go_big_quiet_skip | (go_big_quiet_want; go_big_quiet_op; refine ⟨_, fun W hW => quietCall hW (HRx W (HNi.out W hW)).out, ?_⟩; go_big_quiet_on)
          first | go_big_quiet_skip | (go_big_quiet_want; go_big_quiet_op; first | go_big_quiet_on | (refine ⟨_, fun _ _ => rfl, ?_⟩; go_big_quiet_on))
          first | go_big_quiet_skip | (go_big_quiet_want; go_big_quiet_op; first | go_big_quiet_on | (refine ⟨_, fun _ _ => rfl, ?_⟩; go_big_quiet_on))
          go_big_quiet_want; go_big_quiet_op; first | go_big_quiet_on | (refine ⟨_, fun _ _ => rfl, ?_⟩; go_big_quiet_on)
          refine wpQuiet_nil ?_
          intro X hX
          go_wp2_with fail
          go_ret
          exact ⟨by rw [hv]; rfl, HB1.out.trans ((hb.trans (hX.mono hb.size)).mono HB1.out.size)⟩
    · have hge : N ≤ k := by omega
      have hkf : decide (k < N) = false := decide_eq_false (by omega)
      have HRa := Lib.hid (show ∀ i, i < r.length → rankAt r i = true from fun i hi => HA.out i (by have := HN.out; omega))
      have HB2 := Lib.hid (HB1.out.trans (hb.mono HB1.out.size))
      have HJ2 := Lib.hid (HJ1.out.kept hb)
      have HI2 := Lib.hid (HI1.out.kept hb)
      have HRB2 := HR1
      clear hb HA HI1 HJ1 HRB hkn HB1
      rename World => wo
      go_wp2_with (first
        | (refine wpList_load_one rfl 25 (.tmp 17) rfl R1 0 rfl 67 #[.slice a N c, .slice b M d] (0, 0) HR1.out (.slice a N c) rfl _ Try.underlying25 rfl (by kernel_rfl) ?_))
      go_loopw [4] (fun i wr => ∃ k : Nat, i = .int .i64 (k : Int) ∧ k ≤ M ∧ (∀ j, j < k → heardAt r q j = true) ∧ Below wo.heap.size wo wr) (fun i _ => M - (intOf i).toNat)
      case atStart => exact ⟨0, rfl, by omega, fun j hj => absurd hj (by omega), Below.refl _ _⟩
      case round =>
        obtain ⟨m, rfl, hm, hall, hb⟩ := hrel
        have HA := Lib.hid hall
        have HR1 := Lib.hid ((hb.block R1 (Array.getElem?_eq_some_iff.1 HRB2.out).1).trans HRB2.out)
        clear hall HRB2
        by_cases hmn : m < M
        · have hml : m < q.length := by have := HM.out; omega
          have hi1 : (0 : Int) ≤ (m : Int) := by omega
          have hi2 : (m : Int) < (M : Int) := by omega
          obtain ⟨B, o, ha, hlt, hc⟩ := HJ2.out.at (by omega)
          have lB : B < wr.heap.size := Nat.lt_of_lt_of_le hlt hb.size
          have HCs := Lib.hid (fun j v hv => (hb.cell (p := ⟨B, _, none⟩) hlt).trans (hc m _ (hdAt_some hml) j v hv))
          have HCp := Lib.hid (fun m2 (hm2 : m = m2 + 1) j v hv => (hb.cell (p := ⟨B, _, none⟩) hlt).trans (hc m2 _ (hdAt_some (l := q) (i := m2) (by omega)) j v hv))
          have HNi := Lib.hid (fun (W : World) (hW : Below wr.heap.size wr W) => (HI2.out.kept hb).kept hW)
          have HE := Lib.hid (show heardAt r q m = (!(decide (rankI r (hdAt q m).s < 0)) && (inB (-2147483648) 2147483647 (hdAt q m).n && (inB 0 1000000 (hdAt q m).g && (decide (m = 0) || decide ((hdAt q (m - 1)).s < (hdAt q m).s))))) by rw [rankI_lt]; simp [heardAt])
          have HNo := Lib.hid (HVh.out m hml)
          have HRx := fun W hW => Lib.hid ((HRk W (hdAt q m).s a b c d M hW).out)
          clear hc
          subst ha
          generalize hdAt q m = x at *
          obtain ⟨xs, xn, xg⟩ := x
          unfold hdL at HCs
          dsimp only at *
          generalize rankI r xs = rk at *
          go_wp2_with (first
            | (refine wpList_load_one rfl 65 (.tmp 42) rfl R1 1 rfl 67 #[.slice a N c, .slice (some ⟨B, o, none⟩) M d] (0, 0) HR1.out (.slice (some ⟨B, o, none⟩) M d) rfl _ Try.underlying65 rfl (by kernel_rfl) ?_)
            | (refine wpList_load_one rfl 65 (.tmp 48) rfl R1 1 rfl 67 #[.slice a N c, .slice (some ⟨B, o, none⟩) M d] (0, 0) HR1.out (.slice (some ⟨B, o, none⟩) M d) rfl _ Try.underlying65 rfl (by kernel_rfl) ?_)
            | (refine wpList_load_cells rfl 112 (.tmp 51) rfl B (o + m * 3) rfl [.int .i64 xs, .int .i64 xn, .int .i64 xg] HCs.out _ Try.underlying112 rfl (by kernel_rfl) ?_)
            | (refine wpList_alloc_h rfl 112 rfl (.agg #[.int .i64 0, .int .i64 0, .int .i64 0]) (by kernel_rfl) #[.int .i64 0, .int .i64 0, .int .i64 0] rfl ?_; intro v1 qR1 e1 g1 b1; have KL1 := Lib.hid (show Lg wr v1 [(qR1, #[.int .i64 0, .int .i64 0, .int .i64 0], 112)] [] from (Lg.first wr).box e1 g1 b1); clear g1 b1 e1)
            | (refine wpList_put_at rfl 112 (.tmp 5) (.tmp 52) rfl rfl (qR1) 0 rfl (.agg #[.int .i64 xs, .int .i64 xn, .int .i64 xg]) rfl #[.int .i64 xs, .int .i64 xn, .int .i64 xg] rfl 112 #[.int .i64 0, .int .i64 0, .int .i64 0] #[.int .i64 xs, .int .i64 xn, .int .i64 xg] (KL1.out.get (.head _)) (by kernel_rfl) (by kernel_rfl) (by kernel_rfl) (by kernel_rfl) ?_; intro v2 g2 o2; have KL2 := Lib.hid (show Lg wr v2 [(qR1, #[.int .i64 xs, .int .i64 xn, .int .i64 xg], 112)] [] from KL1.out.put 0 rfl g2 o2 (fun _ h => nomatch h) (fun _ h => nomatch h) rfl); clear g2 o2))
          have hb2 := hb.trans (KL2.out.below.mono hb.size)
          have HRv := Lib.hid ((KL2.out.below.block R1 (Array.getElem?_eq_some_iff.1 HR1.out).1).trans HR1.out)
          have HXv := Lib.hid (KL2.out.get (.head _))
          have lB2 : B < v2.heap.size := Nat.lt_of_lt_of_le lB KL2.out.below.size
          have HNv := Lib.hid (fun (W : World) (hW : Below v2.heap.size v2 W) => HNi.out W (KL2.out.below.trans (hW.mono KL2.out.below.size)))
          rcases c2 : inB (-2147483648) 2147483647 xn
          · have hv := HNo.out (by rw [HE.out, c2]; simp)
            rcases c3 : inB 0 1000000 xg
            · rcases c1 : decide (rk < 0)
              · skip
                refine wp_region_quiet (C := fun W => Below v2.heap.size v2 W) (by kernel_rfl) (by kernel_rfl) (Below.refl _ _).drew ?_
                dsimp only
                simp only [Act.put, List.setIfInBounds_toArray, List.set_cons_zero, List.set_cons_succ]
                go_big_quiet_want; refine ⟨.agg #[.slice a N c, .slice (some ⟨B, o, none⟩) M d], fun W hW => (quietLoadCells 67 (.tmp 1) rfl R1 0 rfl [.slice a N c, .slice (some ⟨B, o, none⟩) M d] (rowAll HRv.out hW) _ Try.underlying67 rfl (by kernel_rfl)), ?_⟩; simp only [Act.put, List.setIfInBounds_toArray, List.set_cons_zero, List.set_cons_succ]; go_big_quiet_on
                go_big_quiet_want; go_big_quiet_op; first | go_big_quiet_on | (refine ⟨_, fun _ _ => rfl, ?_⟩; go_big_quiet_on)
                go_big_quiet_want; refine ⟨.int .i64 xs, fun W hW => (quietLoadOne 2 (.tmp 54) rfl qR1 0 rfl _ (rowCells HXv.out hW 0 _ rfl) _ Try.underlying2 rfl), ?_⟩; simp only [Act.put, List.setIfInBounds_toArray, List.set_cons_zero, List.set_cons_succ]; go_big_quiet_on
                go_big_quiet_want; go_big_quiet_op; refine ⟨_, fun W hW => quietCall hW (HRx W (HNv.out W hW)).out, ?_⟩; go_big_quiet_on
                go_big_quiet_want; go_big_quiet_op; first | go_big_quiet_on | (refine ⟨_, fun _ _ => rfl, ?_⟩; go_big_quiet_on)
                go_big_quiet_want; go_big_quiet_op; first | go_big_quiet_on | (refine ⟨_, fun _ _ => rfl, ?_⟩; go_big_quiet_on)
                first | go_big_quiet_skip | (go_big_quiet_want; go_big_quiet_op; first | go_big_quiet_on | (refine ⟨_, fun _ _ => rfl, ?_⟩; go_big_quiet_on))
                first | go_big_quiet_skip | (go_big_quiet_want; refine ⟨.int .i64 xn, fun W hW => (quietLoadOne 2 (.tmp 59) rfl qR1 1 rfl _ (rowCells HXv.out hW 1 _ rfl) _ Try.underlying2 rfl), ?_⟩; simp only [Act.put, List.setIfInBounds_toArray, List.set_cons_zero, List.set_cons_succ]; go_big_quiet_on)
                first | go_big_quiet_skip | (go_big_quiet_want; go_big_quiet_op; refine ⟨_, fun W hW => (by have := quietSame hW (l09Num_any xn W); rw [c2] at this; exact this), ?_⟩; go_big_quiet_on)
                first | go_big_quiet_skip | (go_big_quiet_want; go_big_quiet_op; first | go_big_quiet_on | (refine ⟨_, fun _ _ => rfl, ?_⟩; go_big_quiet_on))
                go_big_quiet_want; go_big_quiet_op; first | go_big_quiet_on | (refine ⟨_, fun _ _ => rfl, ?_⟩; go_big_quiet_on)
                go_big_quiet_want; go_big_quiet_op; first | go_big_quiet_on | (refine ⟨_, fun _ _ => rfl, ?_⟩; go_big_quiet_on)
                first | go_big_quiet_skip | (go_big_quiet_want; go_big_quiet_op; first | go_big_quiet_on | (refine ⟨_, fun _ _ => rfl, ?_⟩; go_big_quiet_on))
                first | go_big_quiet_skip | (go_big_quiet_want; refine ⟨.int .i64 xg, fun W hW => (quietLoadOne 2 (.tmp 65) rfl qR1 2 rfl _ (rowCells HXv.out hW 2 _ rfl) _ Try.underlying2 rfl), ?_⟩; simp only [Act.put, List.setIfInBounds_toArray, List.set_cons_zero, List.set_cons_succ]; go_big_quiet_on)
                first | go_big_quiet_skip | (go_big_quiet_want; go_big_quiet_op; refine ⟨_, fun W hW => (by have := quietSame hW (l02Time_any xg W); rw [c3] at this; exact this), ?_⟩; go_big_quiet_on)
                first | go_big_quiet_skip | (go_big_quiet_want; go_big_quiet_op; first | go_big_quiet_on | (refine ⟨_, fun _ _ => rfl, ?_⟩; go_big_quiet_on))
                go_big_quiet_want; go_big_quiet_op; first | go_big_quiet_on | (refine ⟨_, fun _ _ => rfl, ?_⟩; go_big_quiet_on)
                go_big_quiet_want; go_big_quiet_op; first | go_big_quiet_on | (refine ⟨_, fun _ _ => rfl, ?_⟩; go_big_quiet_on)
                first | go_big_quiet_skip | (go_big_quiet_want; go_big_quiet_op; first | go_big_quiet_on | (refine ⟨_, fun _ _ => rfl, ?_⟩; go_big_quiet_on))
                first | go_big_quiet_skip | (go_big_quiet_want; go_big_quiet_op; first | go_big_quiet_on | (refine ⟨_, fun _ _ => rfl, ?_⟩; go_big_quiet_on))
                first | go_big_quiet_skip | (go_big_quiet_want; go_big_quiet_op; first | go_big_quiet_on | (refine ⟨_, fun _ _ => rfl, ?_⟩; go_big_quiet_on))
                first | go_big_quiet_skip | (go_big_quiet_want; go_big_quiet_op; first | go_big_quiet_on | (refine ⟨_, fun _ _ => rfl, ?_⟩; go_big_quiet_on))
                first | go_big_quiet_skip | (go_big_quiet_want; refine ⟨.slice (some ⟨B, o, none⟩) M d, fun W hW => (quietLoadOne 65 (.tmp 74) rfl R1 1 rfl _ (rowCells HRv.out hW 1 _ rfl) _ Try.underlying65 rfl), ?_⟩; simp only [Act.put, List.setIfInBounds_toArray, List.set_cons_zero, List.set_cons_succ]; go_big_quiet_on)
                first | go_big_quiet_skip | (go_big_quiet_want; go_big_quiet_op; first | go_big_quiet_on | (refine ⟨_, fun _ _ => rfl, ?_⟩; go_big_quiet_on))
                first | go_big_quiet_skip | (go_big_quiet_want; go_big_quiet_op; first | go_big_quiet_on | (refine ⟨_, fun _ _ => rfl, ?_⟩; go_big_quiet_on))
                first | go_big_quiet_skip | (go_big_quiet_want; go_big_quiet_op; first | go_big_quiet_on | (refine ⟨_, fun _ _ => rfl, ?_⟩; go_big_quiet_on))
                first | go_big_quiet_skip | (go_big_quiet_want; go_big_quiet_op; first | go_big_quiet_on | (refine ⟨_, fun _ _ => rfl, ?_⟩; go_big_quiet_on))
                first | go_big_quiet_skip | (go_big_quiet_want; refine ⟨.int .i64 ps, fun W hW => (quietLoadOne 2 (.tmp 79) rfl B (o + m2 * 3) rfl (.int .i64 ps) ((hW.cell (p := ⟨B, o + m2 * 3, none⟩) lB2).trans HP.out) _ Try.underlying2 rfl), ?_⟩; simp only [Act.put, List.setIfInBounds_toArray, List.set_cons_zero, List.set_cons_succ]; go_big_quiet_on)
                first | go_big_quiet_skip | (go_big_quiet_want; go_big_quiet_op; first | go_big_quiet_on | (refine ⟨_, fun _ _ => rfl, ?_⟩; go_big_quiet_on))
                first | go_big_quiet_skip | (go_big_quiet_want; refine ⟨.int .i64 xs, fun W hW => (quietLoadOne 2 (.tmp 81) rfl qR1 0 rfl _ (rowCells HXv.out hW 0 _ rfl) _ Try.underlying2 rfl), ?_⟩; simp only [Act.put, List.setIfInBounds_toArray, List.set_cons_zero, List.set_cons_succ]; go_big_quiet_on)
                first | go_big_quiet_skip | (go_big_quiet_want; go_big_quiet_op; first | go_big_quiet_on | (refine ⟨_, fun _ _ => rfl, ?_⟩; go_big_quiet_on))
                first | go_big_quiet_skip | (go_big_quiet_want; go_big_quiet_op; first | go_big_quiet_on | (refine ⟨_, fun _ _ => rfl, ?_⟩; go_big_quiet_on))
                go_big_quiet_want; go_big_quiet_op; first | go_big_quiet_on | (refine ⟨_, fun _ _ => rfl, ?_⟩; go_big_quiet_on)
                refine wpQuiet_nil ?_
                intro X hX
                go_wp2_with fail
                go_ret
                exact ⟨by rw [hv]; rfl, HB2.out.trans ((hb2.trans (hX.mono hb2.size)).mono HB2.out.size)⟩
              · skip
                refine wp_region_quiet (C := fun W => Below v2.heap.size v2 W) (by kernel_rfl) (by kernel_rfl) (Below.refl _ _).drew ?_
                dsimp only
                simp only [Act.put, List.setIfInBounds_toArray, List.set_cons_zero, List.set_cons_succ]
                go_big_quiet_want; refine ⟨.agg #[.slice a N c, .slice (some ⟨B, o, none⟩) M d], fun W hW => (quietLoadCells 67 (.tmp 1) rfl R1 0 rfl [.slice a N c, .slice (some ⟨B, o, none⟩) M d] (rowAll HRv.out hW) _ Try.underlying67 rfl (by kernel_rfl)), ?_⟩; simp only [Act.put, List.setIfInBounds_toArray, List.set_cons_zero, List.set_cons_succ]; go_big_quiet_on
                go_big_quiet_want; go_big_quiet_op; first | go_big_quiet_on | (refine ⟨_, fun _ _ => rfl, ?_⟩; go_big_quiet_on)
                go_big_quiet_want; refine ⟨.int .i64 xs, fun W hW => (quietLoadOne 2 (.tmp 54) rfl qR1 0 rfl _ (rowCells HXv.out hW 0 _ rfl) _ Try.underlying2 rfl), ?_⟩; simp only [Act.put, List.setIfInBounds_toArray, List.set_cons_zero, List.set_cons_succ]; go_big_quiet_on
                go_big_quiet_want; go_big_quiet_op; refine ⟨_, fun W hW => quietCall hW (HRx W (HNv.out W hW)).out, ?_⟩; go_big_quiet_on
                go_big_quiet_want; go_big_quiet_op; first | go_big_quiet_on | (refine ⟨_, fun _ _ => rfl, ?_⟩; go_big_quiet_on)
                go_big_quiet_want; go_big_quiet_op; first | go_big_quiet_on | (refine ⟨_, fun _ _ => rfl, ?_⟩; go_big_quiet_on)
                first | go_big_quiet_skip | (go_big_quiet_want; go_big_quiet_op; first | go_big_quiet_on | (refine ⟨_, fun _ _ => rfl, ?_⟩; go_big_quiet_on))
                first | go_big_quiet_skip | (go_big_quiet_want; refine ⟨.int .i64 xn, fun W hW => (quietLoadOne 2 (.tmp 59) rfl qR1 1 rfl _ (rowCells HXv.out hW 1 _ rfl) _ Try.underlying2 rfl), ?_⟩; simp only [Act.put, List.setIfInBounds_toArray, List.set_cons_zero, List.set_cons_succ]; go_big_quiet_on)
                first | go_big_quiet_skip | (go_big_quiet_want; go_big_quiet_op; refine ⟨_, fun W hW => (by have := quietSame hW (l09Num_any xn W); rw [c2] at this; exact this), ?_⟩; go_big_quiet_on)
                first | go_big_quiet_skip | (go_big_quiet_want; go_big_quiet_op; first | go_big_quiet_on | (refine ⟨_, fun _ _ => rfl, ?_⟩; go_big_quiet_on))
                go_big_quiet_want; go_big_quiet_op; first | go_big_quiet_on | (refine ⟨_, fun _ _ => rfl, ?_⟩; go_big_quiet_on)
                go_big_quiet_want; go_big_quiet_op; first | go_big_quiet_on | (refine ⟨_, fun _ _ => rfl, ?_⟩; go_big_quiet_on)
                first | go_big_quiet_skip | (go_big_quiet_want; go_big_quiet_op; first | go_big_quiet_on | (refine ⟨_, fun _ _ => rfl, ?_⟩; go_big_quiet_on))
                first | go_big_quiet_skip | (go_big_quiet_want; refine ⟨.int .i64 xg, fun W hW => (quietLoadOne 2 (.tmp 65) rfl qR1 2 rfl _ (rowCells HXv.out hW 2 _ rfl) _ Try.underlying2 rfl), ?_⟩; simp only [Act.put, List.setIfInBounds_toArray, List.set_cons_zero, List.set_cons_succ]; go_big_quiet_on)
                first | go_big_quiet_skip | (go_big_quiet_want; go_big_quiet_op; refine ⟨_, fun W hW => (by have := quietSame hW (l02Time_any xg W); rw [c3] at this; exact this), ?_⟩; go_big_quiet_on)
                first | go_big_quiet_skip | (go_big_quiet_want; go_big_quiet_op; first | go_big_quiet_on | (refine ⟨_, fun _ _ => rfl, ?_⟩; go_big_quiet_on))
                go_big_quiet_want; go_big_quiet_op; first | go_big_quiet_on | (refine ⟨_, fun _ _ => rfl, ?_⟩; go_big_quiet_on)
                go_big_quiet_want; go_big_quiet_op; first | go_big_quiet_on | (refine ⟨_, fun _ _ => rfl, ?_⟩; go_big_quiet_on)
                first | go_big_quiet_skip | (go_big_quiet_want; go_big_quiet_op; first | go_big_quiet_on | (refine ⟨_, fun _ _ => rfl, ?_⟩; go_big_quiet_on))
                first | go_big_quiet_skip | (go_big_quiet_want; go_big_quiet_op; first | go_big_quiet_on | (refine ⟨_, fun _ _ => rfl, ?_⟩; go_big_quiet_on))
                first | go_big_quiet_skip | (go_big_quiet_want; go_big_quiet_op; first | go_big_quiet_on | (refine ⟨_, fun _ _ => rfl, ?_⟩; go_big_quiet_on))
                first | go_big_quiet_skip | (go_big_quiet_want; go_big_quiet_op; first | go_big_quiet_on | (refine ⟨_, fun _ _ => rfl, ?_⟩; go_big_quiet_on))
                first | go_big_quiet_skip | (go_big_quiet_want; refine ⟨.slice (some ⟨B, o, none⟩) M d, fun W hW => (quietLoadOne 65 (.tmp 74) rfl R1 1 rfl _ (rowCells HRv.out hW 1 _ rfl) _ Try.underlying65 rfl), ?_⟩; simp only [Act.put, List.setIfInBounds_toArray, List.set_cons_zero, List.set_cons_succ]; go_big_quiet_on)
                first | go_big_quiet_skip | (go_big_quiet_want; go_big_quiet_op; first | go_big_quiet_on | (refine ⟨_, fun _ _ => rfl, ?_⟩; go_big_quiet_on))
                first | go_big_quiet_skip | (go_big_quiet_want; go_big_quiet_op; first | go_big_quiet_on | (refine ⟨_, fun _ _ => rfl, ?_⟩; go_big_quiet_on))
                first | go_big_quiet_skip | (go_big_quiet_want; go_big_quiet_op; first | go_big_quiet_on | (refine ⟨_, fun _ _ => rfl, ?_⟩; go_big_quiet_on))
                first | go_big_quiet_skip | (go_big_quiet_want; go_big_quiet_op; first | go_big_quiet_on | (refine ⟨_, fun _ _ => rfl, ?_⟩; go_big_quiet_on))
                first | go_big_quiet_skip | (go_big_quiet_want; refine ⟨.int .i64 ps, fun W hW => (quietLoadOne 2 (.tmp 79) rfl B (o + m2 * 3) rfl (.int .i64 ps) ((hW.cell (p := ⟨B, o + m2 * 3, none⟩) lB2).trans HP.out) _ Try.underlying2 rfl), ?_⟩; simp only [Act.put, List.setIfInBounds_toArray, List.set_cons_zero, List.set_cons_succ]; go_big_quiet_on)
                first | go_big_quiet_skip | (go_big_quiet_want; go_big_quiet_op; first | go_big_quiet_on | (refine ⟨_, fun _ _ => rfl, ?_⟩; go_big_quiet_on))
                first | go_big_quiet_skip | (go_big_quiet_want; refine ⟨.int .i64 xs, fun W hW => (quietLoadOne 2 (.tmp 81) rfl qR1 0 rfl _ (rowCells HXv.out hW 0 _ rfl) _ Try.underlying2 rfl), ?_⟩; simp only [Act.put, List.setIfInBounds_toArray, List.set_cons_zero, List.set_cons_succ]; go_big_quiet_on)
                first | go_big_quiet_skip | (go_big_quiet_want; go_big_quiet_op; first | go_big_quiet_on | (refine ⟨_, fun _ _ => rfl, ?_⟩; go_big_quiet_on))
                first | go_big_quiet_skip | (go_big_quiet_want; go_big_quiet_op; first | go_big_quiet_on | (refine ⟨_, fun _ _ => rfl, ?_⟩; go_big_quiet_on))
                go_big_quiet_want; go_big_quiet_op; first | go_big_quiet_on | (refine ⟨_, fun _ _ => rfl, ?_⟩; go_big_quiet_on)
                refine wpQuiet_nil ?_
                intro X hX
                go_wp2_with fail
                go_ret
                exact ⟨by rw [hv]; rfl, HB2.out.trans ((hb2.trans (hX.mono hb2.size)).mono HB2.out.size)⟩
            · rcases c1 : decide (rk < 0)
              · skip
                refine wp_region_quiet (C := fun W => Below v2.heap.size v2 W) (by kernel_rfl) (by kernel_rfl) (Below.refl _ _).drew ?_
                dsimp only
                simp only [Act.put, List.setIfInBounds_toArray, List.set_cons_zero, List.set_cons_succ]
                go_big_quiet_want; refine ⟨.agg #[.slice a N c, .slice (some ⟨B, o, none⟩) M d], fun W hW => (quietLoadCells 67 (.tmp 1) rfl R1 0 rfl [.slice a N c, .slice (some ⟨B, o, none⟩) M d] (rowAll HRv.out hW) _ Try.underlying67 rfl (by kernel_rfl)), ?_⟩; simp only [Act.put, List.setIfInBounds_toArray, List.set_cons_zero, List.set_cons_succ]; go_big_quiet_on
                go_big_quiet_want; go_big_quiet_op; first | go_big_quiet_on | (refine ⟨_, fun _ _ => rfl, ?_⟩; go_big_quiet_on)
                go_big_quiet_want; refine ⟨.int .i64 xs, fun W hW => (quietLoadOne 2 (.tmp 54) rfl qR1 0 rfl _ (rowCells HXv.out hW 0 _ rfl) _ Try.underlying2 rfl), ?_⟩; simp only [Act.put, List.setIfInBounds_toArray, List.set_cons_zero, List.set_cons_succ]; go_big_quiet_on
                go_big_quiet_want; go_big_quiet_op; refine ⟨_, fun W hW => quietCall hW (HRx W (HNv.out W hW)).out, ?_⟩; go_big_quiet_on
                go_big_quiet_want; go_big_quiet_op; first | go_big_quiet_on | (refine ⟨_, fun _ _ => rfl, ?_⟩; go_big_quiet_on)
                go_big_quiet_want; go_big_quiet_op; first | go_big_quiet_on | (refine ⟨_, fun _ _ => rfl, ?_⟩; go_big_quiet_on)
                first | go_big_quiet_skip | (go_big_quiet_want; go_big_quiet_op; first | go_big_quiet_on | (refine ⟨_, fun _ _ => rfl, ?_⟩; go_big_quiet_on))
                first | go_big_quiet_skip | (go_big_quiet_want; refine ⟨.int .i64 xn, fun W hW => (quietLoadOne 2 (.tmp 59) rfl qR1 1 rfl _ (rowCells HXv.out hW 1 _ rfl) _ Try.underlying2 rfl), ?_⟩; simp only [Act.put, List.setIfInBounds_toArray, List.set_cons_zero, List.set_cons_succ]; go_big_quiet_on)
                first | go_big_quiet_skip | (go_big_quiet_want; go_big_quiet_op; refine ⟨_, fun W hW => (by have := quietSame hW (l09Num_any xn W); rw [c2] at this; exact this), ?_⟩; go_big_quiet_on)
                first | go_big_quiet_skip | (go_big_quiet_want; go_big_quiet_op; first | go_big_quiet_on | (refine ⟨_, fun _ _ => rfl, ?_⟩; go_big_quiet_on))
                go_big_quiet_want; go_big_quiet_op; first | go_big_quiet_on | (refine ⟨_, fun _ _ => rfl, ?_⟩; go_big_quiet_on)
                go_big_quiet_want; go_big_quiet_op; first | go_big_quiet_on | (refine ⟨_, fun _ _ => rfl, ?_⟩; go_big_quiet_on)
                first | go_big_quiet_skip | (go_big_quiet_want; go_big_quiet_op; first | go_big_quiet_on | (refine ⟨_, fun _ _ => rfl, ?_⟩; go_big_quiet_on))
                first | go_big_quiet_skip | (go_big_quiet_want; refine ⟨.int .i64 xg, fun W hW => (quietLoadOne 2 (.tmp 65) rfl qR1 2 rfl _ (rowCells HXv.out hW 2 _ rfl) _ Try.underlying2 rfl), ?_⟩; simp only [Act.put, List.setIfInBounds_toArray, List.set_cons_zero, List.set_cons_succ]; go_big_quiet_on)
                first | go_big_quiet_skip | (go_big_quiet_want; go_big_quiet_op; refine ⟨_, fun W hW => (by have := quietSame hW (l02Time_any xg W); rw [c3] at this; exact this), ?_⟩; go_big_quiet_on)
                first | go_big_quiet_skip | (go_big_quiet_want; go_big_quiet_op; first | go_big_quiet_on | (refine ⟨_, fun _ _ => rfl, ?_⟩; go_big_quiet_on))
                go_big_quiet_want; go_big_quiet_op; first | go_big_quiet_on | (refine ⟨_, fun _ _ => rfl, ?_⟩; go_big_quiet_on)
                go_big_quiet_want; go_big_quiet_op; first | go_big_quiet_on | (refine ⟨_, fun _ _ => rfl, ?_⟩; go_big_quiet_on)
                first | go_big_quiet_skip | (go_big_quiet_want; go_big_quiet_op; first | go_big_quiet_on | (refine ⟨_, fun _ _ => rfl, ?_⟩; go_big_quiet_on))
                first | go_big_quiet_skip | (go_big_quiet_want; go_big_quiet_op; first | go_big_quiet_on | (refine ⟨_, fun _ _ => rfl, ?_⟩; go_big_quiet_on))
                first | go_big_quiet_skip | (go_big_quiet_want; go_big_quiet_op; first | go_big_quiet_on | (refine ⟨_, fun _ _ => rfl, ?_⟩; go_big_quiet_on))
                first | go_big_quiet_skip | (go_big_quiet_want; go_big_quiet_op; first | go_big_quiet_on | (refine ⟨_, fun _ _ => rfl, ?_⟩; go_big_quiet_on))
                first | go_big_quiet_skip | (go_big_quiet_want; refine ⟨.slice (some ⟨B, o, none⟩) M d, fun W hW => (quietLoadOne 65 (.tmp 74) rfl R1 1 rfl _ (rowCells HRv.out hW 1 _ rfl) _ Try.underlying65 rfl), ?_⟩; simp only [Act.put, List.setIfInBounds_toArray, List.set_cons_zero, List.set_cons_succ]; go_big_quiet_on)
                first | go_big_quiet_skip | (go_big_quiet_want; go_big_quiet_op; first | go_big_quiet_on | (refine ⟨_, fun _ _ => rfl, ?_⟩; go_big_quiet_on))
                first | go_big_quiet_skip | (go_big_quiet_want; go_big_quiet_op; first | go_big_quiet_on | (refine ⟨_, fun _ _ => rfl, ?_⟩; go_big_quiet_on))
                first | go_big_quiet_skip | (go_big_quiet_want; go_big_quiet_op; first | go_big_quiet_on | (refine ⟨_, fun _ _ => rfl, ?_⟩; go_big_quiet_on))
                first | go_big_quiet_skip | (go_big_quiet_want; go_big_quiet_op; first | go_big_quiet_on | (refine ⟨_, fun _ _ => rfl, ?_⟩; go_big_quiet_on))
                first | go_big_quiet_skip | (go_big_quiet_want; refine ⟨.int .i64 ps, fun W hW => (quietLoadOne 2 (.tmp 79) rfl B (o + m2 * 3) rfl (.int .i64 ps) ((hW.cell (p := ⟨B, o + m2 * 3, none⟩) lB2).trans HP.out) _ Try.underlying2 rfl), ?_⟩; simp only [Act.put, List.setIfInBounds_toArray, List.set_cons_zero, List.set_cons_succ]; go_big_quiet_on)
                first | go_big_quiet_skip | (go_big_quiet_want; go_big_quiet_op; first | go_big_quiet_on | (refine ⟨_, fun _ _ => rfl, ?_⟩; go_big_quiet_on))
                first | go_big_quiet_skip | (go_big_quiet_want; refine ⟨.int .i64 xs, fun W hW => (quietLoadOne 2 (.tmp 81) rfl qR1 0 rfl _ (rowCells HXv.out hW 0 _ rfl) _ Try.underlying2 rfl), ?_⟩; simp only [Act.put, List.setIfInBounds_toArray, List.set_cons_zero, List.set_cons_succ]; go_big_quiet_on)
                first | go_big_quiet_skip | (go_big_quiet_want; go_big_quiet_op; first | go_big_quiet_on | (refine ⟨_, fun _ _ => rfl, ?_⟩; go_big_quiet_on))
                first | go_big_quiet_skip | (go_big_quiet_want; go_big_quiet_op; first | go_big_quiet_on | (refine ⟨_, fun _ _ => rfl, ?_⟩; go_big_quiet_on))
                go_big_quiet_want; go_big_quiet_op; first | go_big_quiet_on | (refine ⟨_, fun _ _ => rfl, ?_⟩; go_big_quiet_on)
                refine wpQuiet_nil ?_
                intro X hX
                go_wp2_with fail
                go_ret
                exact ⟨by rw [hv]; rfl, HB2.out.trans ((hb2.trans (hX.mono hb2.size)).mono HB2.out.size)⟩
              · skip
                refine wp_region_quiet (C := fun W => Below v2.heap.size v2 W) (by kernel_rfl) (by kernel_rfl) (Below.refl _ _).drew ?_
                dsimp only
                simp only [Act.put, List.setIfInBounds_toArray, List.set_cons_zero, List.set_cons_succ]
                go_big_quiet_want; refine ⟨.agg #[.slice a N c, .slice (some ⟨B, o, none⟩) M d], fun W hW => (quietLoadCells 67 (.tmp 1) rfl R1 0 rfl [.slice a N c, .slice (some ⟨B, o, none⟩) M d] (rowAll HRv.out hW) _ Try.underlying67 rfl (by kernel_rfl)), ?_⟩; simp only [Act.put, List.setIfInBounds_toArray, List.set_cons_zero, List.set_cons_succ]; go_big_quiet_on
                go_big_quiet_want; go_big_quiet_op; first | go_big_quiet_on | (refine ⟨_, fun _ _ => rfl, ?_⟩; go_big_quiet_on)
                go_big_quiet_want; refine ⟨.int .i64 xs, fun W hW => (quietLoadOne 2 (.tmp 54) rfl qR1 0 rfl _ (rowCells HXv.out hW 0 _ rfl) _ Try.underlying2 rfl), ?_⟩; simp only [Act.put, List.setIfInBounds_toArray, List.set_cons_zero, List.set_cons_succ]; go_big_quiet_on
                go_big_quiet_want; go_big_quiet_op; refine ⟨_, fun W hW => quietCall hW (HRx W (HNv.out W hW)).out, ?_⟩; go_big_quiet_on
                go_big_quiet_want; go_big_quiet_op; first | go_big_quiet_on | (refine ⟨_, fun _ _ => rfl, ?_⟩; go_big_quiet_on)
                go_big_quiet_want; go_big_quiet_op; first | go_big_quiet_on | (refine ⟨_, fun _ _ => rfl, ?_⟩; go_big_quiet_on)
                first | go_big_quiet_skip | (go_big_quiet_want; go_big_quiet_op; first | go_big_quiet_on | (refine ⟨_, fun _ _ => rfl, ?_⟩; go_big_quiet_on))
                first | go_big_quiet_skip | (go_big_quiet_want; refine ⟨.int .i64 xn, fun W hW => (quietLoadOne 2 (.tmp 59) rfl qR1 1 rfl _ (rowCells HXv.out hW 1 _ rfl) _ Try.underlying2 rfl), ?_⟩; simp only [Act.put, List.setIfInBounds_toArray, List.set_cons_zero, List.set_cons_succ]; go_big_quiet_on)
                first | go_big_quiet_skip | (go_big_quiet_want; go_big_quiet_op; refine ⟨_, fun W hW => (by have := quietSame hW (l09Num_any xn W); rw [c2] at this; exact this), ?_⟩; go_big_quiet_on)
                first | go_big_quiet_skip | (go_big_quiet_want; go_big_quiet_op; first | go_big_quiet_on | (refine ⟨_, fun _ _ => rfl, ?_⟩; go_big_quiet_on))
                go_big_quiet_want; go_big_quiet_op; first | go_big_quiet_on | (refine ⟨_, fun _ _ => rfl, ?_⟩; go_big_quiet_on)
                go_big_quiet_want; go_big_quiet_op; first | go_big_quiet_on | (refine ⟨_, fun _ _ => rfl, ?_⟩; go_big_quiet_on)
                first | go_big_quiet_skip | (go_big_quiet_want; go_big_quiet_op; first | go_big_quiet_on | (refine ⟨_, fun _ _ => rfl, ?_⟩; go_big_quiet_on))
                first | go_big_quiet_skip | (go_big_quiet_want; refine ⟨.int .i64 xg, fun W hW => (quietLoadOne 2 (.tmp 65) rfl qR1 2 rfl _ (rowCells HXv.out hW 2 _ rfl) _ Try.underlying2 rfl), ?_⟩; simp only [Act.put, List.setIfInBounds_toArray, List.set_cons_zero, List.set_cons_succ]; go_big_quiet_on)
                first | go_big_quiet_skip | (go_big_quiet_want; go_big_quiet_op; refine ⟨_, fun W hW => (by have := quietSame hW (l02Time_any xg W); rw [c3] at this; exact this), ?_⟩; go_big_quiet_on)
                first | go_big_quiet_skip | (go_big_quiet_want; go_big_quiet_op; first | go_big_quiet_on | (refine ⟨_, fun _ _ => rfl, ?_⟩; go_big_quiet_on))
                go_big_quiet_want; go_big_quiet_op; first | go_big_quiet_on | (refine ⟨_, fun _ _ => rfl, ?_⟩; go_big_quiet_on)
                go_big_quiet_want; go_big_quiet_op; first | go_big_quiet_on | (refine ⟨_, fun _ _ => rfl, ?_⟩; go_big_quiet_on)
                first | go_big_quiet_skip | (go_big_quiet_want; go_big_quiet_op; first | go_big_quiet_on | (refine ⟨_, fun _ _ => rfl, ?_⟩; go_big_quiet_on))
                first | go_big_quiet_skip | (go_big_quiet_want; go_big_quiet_op; first | go_big_quiet_on | (refine ⟨_, fun _ _ => rfl, ?_⟩; go_big_quiet_on))
                first | go_big_quiet_skip | (go_big_quiet_want; go_big_quiet_op; first | go_big_quiet_on | (refine ⟨_, fun _ _ => rfl, ?_⟩; go_big_quiet_on))
                first | go_big_quiet_skip | (go_big_quiet_want; go_big_quiet_op; first | go_big_quiet_on | (refine ⟨_, fun _ _ => rfl, ?_⟩; go_big_quiet_on))
                first | go_big_quiet_skip | (go_big_quiet_want; refine ⟨.slice (some ⟨B, o, none⟩) M d, fun W hW => (quietLoadOne 65 (.tmp 74) rfl R1 1 rfl _ (rowCells HRv.out hW 1 _ rfl) _ Try.underlying65 rfl), ?_⟩; simp only [Act.put, List.setIfInBounds_toArray, List.set_cons_zero, List.set_cons_succ]; go_big_quiet_on)
                first | go_big_quiet_skip | (go_big_quiet_want; go_big_quiet_op; first | go_big_quiet_on | (refine ⟨_, fun _ _ => rfl, ?_⟩; go_big_quiet_on))
                first | go_big_quiet_skip | (go_big_quiet_want; go_big_quiet_op; first | go_big_quiet_on | (refine ⟨_, fun _ _ => rfl, ?_⟩; go_big_quiet_on))
                first | go_big_quiet_skip | (go_big_quiet_want; go_big_quiet_op; first | go_big_quiet_on | (refine ⟨_, fun _ _ => rfl, ?_⟩; go_big_quiet_on))
                first | go_big_quiet_skip | (go_big_quiet_want; go_big_quiet_op; first | go_big_quiet_on | (refine ⟨_, fun _ _ => rfl, ?_⟩; go_big_quiet_on))
                first | go_big_quiet_skip | (go_big_quiet_want; refine ⟨.int .i64 ps, fun W hW => (quietLoadOne 2 (.tmp 79) rfl B (o + m2 * 3) rfl (.int .i64 ps) ((hW.cell (p := ⟨B, o + m2 * 3, none⟩) lB2).trans HP.out) _ Try.underlying2 rfl), ?_⟩; simp only [Act.put, List.setIfInBounds_toArray, List.set_cons_zero, List.set_cons_succ]; go_big_quiet_on)
                first | go_big_quiet_skip | (go_big_quiet_want; go_big_quiet_op; first | go_big_quiet_on | (refine ⟨_, fun _ _ => rfl, ?_⟩; go_big_quiet_on))
                first | go_big_quiet_skip | (go_big_quiet_want; refine ⟨.int .i64 xs, fun W hW => (quietLoadOne 2 (.tmp 81) rfl qR1 0 rfl _ (rowCells HXv.out hW 0 _ rfl) _ Try.underlying2 rfl), ?_⟩; simp only [Act.put, List.setIfInBounds_toArray, List.set_cons_zero, List.set_cons_succ]; go_big_quiet_on)
                first | go_big_quiet_skip | (go_big_quiet_want; go_big_quiet_op; first | go_big_quiet_on | (refine ⟨_, fun _ _ => rfl, ?_⟩; go_big_quiet_on))
                first | go_big_quiet_skip | (go_big_quiet_want; go_big_quiet_op; first | go_big_quiet_on | (refine ⟨_, fun _ _ => rfl, ?_⟩; go_big_quiet_on))
                go_big_quiet_want; go_big_quiet_op; first | go_big_quiet_on | (refine ⟨_, fun _ _ => rfl, ?_⟩; go_big_quiet_on)
                refine wpQuiet_nil ?_
                intro X hX
                go_wp2_with fail
                go_ret
                exact ⟨by rw [hv]; rfl, HB2.out.trans ((hb2.trans (hX.mono hb2.size)).mono HB2.out.size)⟩
          · rcases c3 : inB 0 1000000 xg
            · have hv := HNo.out (by rw [HE.out, c2, c3]; simp)
              rcases c1 : decide (rk < 0)
              · skip
                refine wp_region_quiet (C := fun W => Below v2.heap.size v2 W) (by kernel_rfl) (by kernel_rfl) (Below.refl _ _).drew ?_
                dsimp only
                simp only [Act.put, List.setIfInBounds_toArray, List.set_cons_zero, List.set_cons_succ]
                go_big_quiet_want; refine ⟨.agg #[.slice a N c, .slice (some ⟨B, o, none⟩) M d], fun W hW => (quietLoadCells 67 (.tmp 1) rfl R1 0 rfl [.slice a N c, .slice (some ⟨B, o, none⟩) M d] (rowAll HRv.out hW) _ Try.underlying67 rfl (by kernel_rfl)), ?_⟩; simp only [Act.put, List.setIfInBounds_toArray, List.set_cons_zero, List.set_cons_succ]; go_big_quiet_on
                go_big_quiet_want; go_big_quiet_op; first | go_big_quiet_on | (refine ⟨_, fun _ _ => rfl, ?_⟩; go_big_quiet_on)
                go_big_quiet_want; refine ⟨.int .i64 xs, fun W hW => (quietLoadOne 2 (.tmp 54) rfl qR1 0 rfl _ (rowCells HXv.out hW 0 _ rfl) _ Try.underlying2 rfl), ?_⟩; simp only [Act.put, List.setIfInBounds_toArray, List.set_cons_zero, List.set_cons_succ]; go_big_quiet_on
                go_big_quiet_want; go_big_quiet_op; refine ⟨_, fun W hW => quietCall hW (HRx W (HNv.out W hW)).out, ?_⟩; go_big_quiet_on
                go_big_quiet_want; go_big_quiet_op; first | go_big_quiet_on | (refine ⟨_, fun _ _ => rfl, ?_⟩; go_big_quiet_on)
                go_big_quiet_want; go_big_quiet_op; first | go_big_quiet_on | (refine ⟨_, fun _ _ => rfl, ?_⟩; go_big_quiet_on)
                first | go_big_quiet_skip | (go_big_quiet_want; go_big_quiet_op; first | go_big_quiet_on | (refine ⟨_, fun _ _ => rfl, ?_⟩; go_big_quiet_on))
                first | go_big_quiet_skip | (go_big_quiet_want; refine ⟨.int .i64 xn, fun W hW => (quietLoadOne 2 (.tmp 59) rfl qR1 1 rfl _ (rowCells HXv.out hW 1 _ rfl) _ Try.underlying2 rfl), ?_⟩; simp only [Act.put, List.setIfInBounds_toArray, List.set_cons_zero, List.set_cons_succ]; go_big_quiet_on)
                first | go_big_quiet_skip | (go_big_quiet_want; go_big_quiet_op; refine ⟨_, fun W hW => (by have := quietSame hW (l09Num_any xn W); rw [c2] at this; exact this), ?_⟩; go_big_quiet_on)
                first | go_big_quiet_skip | (go_big_quiet_want; go_big_quiet_op; first | go_big_quiet_on | (refine ⟨_, fun _ _ => rfl, ?_⟩; go_big_quiet_on))
                go_big_quiet_want; go_big_quiet_op; first | go_big_quiet_on | (refine ⟨_, fun _ _ => rfl, ?_⟩; go_big_quiet_on)
                go_big_quiet_want; go_big_quiet_op; first | go_big_quiet_on | (refine ⟨_, fun _ _ => rfl, ?_⟩; go_big_quiet_on)
                first | go_big_quiet_skip | (go_big_quiet_want; go_big_quiet_op; first | go_big_quiet_on | (refine ⟨_, fun _ _ => rfl, ?_⟩; go_big_quiet_on))
                first | go_big_quiet_skip | (go_big_quiet_want; refine ⟨.int .i64 xg, fun W hW => (quietLoadOne 2 (.tmp 65) rfl qR1 2 rfl _ (rowCells HXv.out hW 2 _ rfl) _ Try.underlying2 rfl), ?_⟩; simp only [Act.put, List.setIfInBounds_toArray, List.set_cons_zero, List.set_cons_succ]; go_big_quiet_on)
                first | go_big_quiet_skip | (go_big_quiet_want; go_big_quiet_op; refine ⟨_, fun W hW => (by have := quietSame hW (l02Time_any xg W); rw [c3] at this; exact this), ?_⟩; go_big_quiet_on)
                first | go_big_quiet_skip | (go_big_quiet_want; go_big_quiet_op; first | go_big_quiet_on | (refine ⟨_, fun _ _ => rfl, ?_⟩; go_big_quiet_on))
                go_big_quiet_want; go_big_quiet_op; first | go_big_quiet_on | (refine ⟨_, fun _ _ => rfl, ?_⟩; go_big_quiet_on)
                go_big_quiet_want; go_big_quiet_op; first | go_big_quiet_on | (refine ⟨_, fun _ _ => rfl, ?_⟩; go_big_quiet_on)
                first | go_big_quiet_skip | (go_big_quiet_want; go_big_quiet_op; first | go_big_quiet_on | (refine ⟨_, fun _ _ => rfl, ?_⟩; go_big_quiet_on))
                first | go_big_quiet_skip | (go_big_quiet_want; go_big_quiet_op; first | go_big_quiet_on | (refine ⟨_, fun _ _ => rfl, ?_⟩; go_big_quiet_on))
                first | go_big_quiet_skip | (go_big_quiet_want; go_big_quiet_op; first | go_big_quiet_on | (refine ⟨_, fun _ _ => rfl, ?_⟩; go_big_quiet_on))
                first | go_big_quiet_skip | (go_big_quiet_want; go_big_quiet_op; first | go_big_quiet_on | (refine ⟨_, fun _ _ => rfl, ?_⟩; go_big_quiet_on))
                first | go_big_quiet_skip | (go_big_quiet_want; refine ⟨.slice (some ⟨B, o, none⟩) M d, fun W hW => (quietLoadOne 65 (.tmp 74) rfl R1 1 rfl _ (rowCells HRv.out hW 1 _ rfl) _ Try.underlying65 rfl), ?_⟩; simp only [Act.put, List.setIfInBounds_toArray, List.set_cons_zero, List.set_cons_succ]; go_big_quiet_on)
                first | go_big_quiet_skip | (go_big_quiet_want; go_big_quiet_op; first | go_big_quiet_on | (refine ⟨_, fun _ _ => rfl, ?_⟩; go_big_quiet_on))
                first | go_big_quiet_skip | (go_big_quiet_want; go_big_quiet_op; first | go_big_quiet_on | (refine ⟨_, fun _ _ => rfl, ?_⟩; go_big_quiet_on))
                first | go_big_quiet_skip | (go_big_quiet_want; go_big_quiet_op; first | go_big_quiet_on | (refine ⟨_, fun _ _ => rfl, ?_⟩; go_big_quiet_on))
                first | go_big_quiet_skip | (go_big_quiet_want; go_big_quiet_op; first | go_big_quiet_on | (refine ⟨_, fun _ _ => rfl, ?_⟩; go_big_quiet_on))
                first | go_big_quiet_skip | (go_big_quiet_want; refine ⟨.int .i64 ps, fun W hW => (quietLoadOne 2 (.tmp 79) rfl B (o + m2 * 3) rfl (.int .i64 ps) ((hW.cell (p := ⟨B, o + m2 * 3, none⟩) lB2).trans HP.out) _ Try.underlying2 rfl), ?_⟩; simp only [Act.put, List.setIfInBounds_toArray, List.set_cons_zero, List.set_cons_succ]; go_big_quiet_on)
                first | go_big_quiet_skip | (go_big_quiet_want; go_big_quiet_op; first | go_big_quiet_on | (refine ⟨_, fun _ _ => rfl, ?_⟩; go_big_quiet_on))
                first | go_big_quiet_skip | (go_big_quiet_want; refine ⟨.int .i64 xs, fun W hW => (quietLoadOne 2 (.tmp 81) rfl qR1 0 rfl _ (rowCells HXv.out hW 0 _ rfl) _ Try.underlying2 rfl), ?_⟩; simp only [Act.put, List.setIfInBounds_toArray, List.set_cons_zero, List.set_cons_succ]; go_big_quiet_on)
                first | go_big_quiet_skip | (go_big_quiet_want; go_big_quiet_op; first | go_big_quiet_on | (refine ⟨_, fun _ _ => rfl, ?_⟩; go_big_quiet_on))
                first | go_big_quiet_skip | (go_big_quiet_want; go_big_quiet_op; first | go_big_quiet_on | (refine ⟨_, fun _ _ => rfl, ?_⟩; go_big_quiet_on))
                go_big_quiet_want; go_big_quiet_op; first | go_big_quiet_on | (refine ⟨_, fun _ _ => rfl, ?_⟩; go_big_quiet_on)
                refine wpQuiet_nil ?_
                intro X hX
                go_wp2_with fail
                go_ret
                exact ⟨by rw [hv]; rfl, HB2.out.trans ((hb2.trans (hX.mono hb2.size)).mono HB2.out.size)⟩
              · skip
                refine wp_region_quiet (C := fun W => Below v2.heap.size v2 W) (by kernel_rfl) (by kernel_rfl) (Below.refl _ _).drew ?_
                dsimp only
                simp only [Act.put, List.setIfInBounds_toArray, List.set_cons_zero, List.set_cons_succ]
                go_big_quiet_want; refine ⟨.agg #[.slice a N c, .slice (some ⟨B, o, none⟩) M d], fun W hW => (quietLoadCells 67 (.tmp 1) rfl R1 0 rfl [.slice a N c, .slice (some ⟨B, o, none⟩) M d] (rowAll HRv.out hW) _ Try.underlying67 rfl (by kernel_rfl)), ?_⟩; simp only [Act.put, List.setIfInBounds_toArray, List.set_cons_zero, List.set_cons_succ]; go_big_quiet_on
                go_big_quiet_want; go_big_quiet_op; first | go_big_quiet_on | (refine ⟨_, fun _ _ => rfl, ?_⟩; go_big_quiet_on)
                go_big_quiet_want; refine ⟨.int .i64 xs, fun W hW => (quietLoadOne 2 (.tmp 54) rfl qR1 0 rfl _ (rowCells HXv.out hW 0 _ rfl) _ Try.underlying2 rfl), ?_⟩; simp only [Act.put, List.setIfInBounds_toArray, List.set_cons_zero, List.set_cons_succ]; go_big_quiet_on
                go_big_quiet_want; go_big_quiet_op; refine ⟨_, fun W hW => quietCall hW (HRx W (HNv.out W hW)).out, ?_⟩; go_big_quiet_on
                go_big_quiet_want; go_big_quiet_op; first | go_big_quiet_on | (refine ⟨_, fun _ _ => rfl, ?_⟩; go_big_quiet_on)
                go_big_quiet_want; go_big_quiet_op; first | go_big_quiet_on | (refine ⟨_, fun _ _ => rfl, ?_⟩; go_big_quiet_on)
                first | go_big_quiet_skip | (go_big_quiet_want; go_big_quiet_op; first | go_big_quiet_on | (refine ⟨_, fun _ _ => rfl, ?_⟩; go_big_quiet_on))
                first | go_big_quiet_skip | (go_big_quiet_want; refine ⟨.int .i64 xn, fun W hW => (quietLoadOne 2 (.tmp 59) rfl qR1 1 rfl _ (rowCells HXv.out hW 1 _ rfl) _ Try.underlying2 rfl), ?_⟩; simp only [Act.put, List.setIfInBounds_toArray, List.set_cons_zero, List.set_cons_succ]; go_big_quiet_on)
                first | go_big_quiet_skip | (go_big_quiet_want; go_big_quiet_op; refine ⟨_, fun W hW => (by have := quietSame hW (l09Num_any xn W); rw [c2] at this; exact this), ?_⟩; go_big_quiet_on)
                first | go_big_quiet_skip | (go_big_quiet_want; go_big_quiet_op; first | go_big_quiet_on | (refine ⟨_, fun _ _ => rfl, ?_⟩; go_big_quiet_on))
                go_big_quiet_want; go_big_quiet_op; first | go_big_quiet_on | (refine ⟨_, fun _ _ => rfl, ?_⟩; go_big_quiet_on)
                go_big_quiet_want; go_big_quiet_op; first | go_big_quiet_on | (refine ⟨_, fun _ _ => rfl, ?_⟩; go_big_quiet_on)
                first | go_big_quiet_skip | (go_big_quiet_want; go_big_quiet_op; first | go_big_quiet_on | (refine ⟨_, fun _ _ => rfl, ?_⟩; go_big_quiet_on))
                first | go_big_quiet_skip | (go_big_quiet_want; refine ⟨.int .i64 xg, fun W hW => (quietLoadOne 2 (.tmp 65) rfl qR1 2 rfl _ (rowCells HXv.out hW 2 _ rfl) _ Try.underlying2 rfl), ?_⟩; simp only [Act.put, List.setIfInBounds_toArray, List.set_cons_zero, List.set_cons_succ]; go_big_quiet_on)
                first | go_big_quiet_skip | (go_big_quiet_want; go_big_quiet_op; refine ⟨_, fun W hW => (by have := quietSame hW (l02Time_any xg W); rw [c3] at this; exact this), ?_⟩; go_big_quiet_on)
                first | go_big_quiet_skip | (go_big_quiet_want; go_big_quiet_op; first | go_big_quiet_on | (refine ⟨_, fun _ _ => rfl, ?_⟩; go_big_quiet_on))
                go_big_quiet_want; go_big_quiet_op; first | go_big_quiet_on | (refine ⟨_, fun _ _ => rfl, ?_⟩; go_big_quiet_on)
                go_big_quiet_want; go_big_quiet_op; first | go_big_quiet_on | (refine ⟨_, fun _ _ => rfl, ?_⟩; go_big_quiet_on)
                first | go_big_quiet_skip | (go_big_quiet_want; go_big_quiet_op; first | go_big_quiet_on | (refine ⟨_, fun _ _ => rfl, ?_⟩; go_big_quiet_on))
                first | go_big_quiet_skip | (go_big_quiet_want; go_big_quiet_op; first | go_big_quiet_on | (refine ⟨_, fun _ _ => rfl, ?_⟩; go_big_quiet_on))
                first | go_big_quiet_skip | (go_big_quiet_want; go_big_quiet_op; first | go_big_quiet_on | (refine ⟨_, fun _ _ => rfl, ?_⟩; go_big_quiet_on))
                first | go_big_quiet_skip | (go_big_quiet_want; go_big_quiet_op; first | go_big_quiet_on | (refine ⟨_, fun _ _ => rfl, ?_⟩; go_big_quiet_on))
                first | go_big_quiet_skip | (go_big_quiet_want; refine ⟨.slice (some ⟨B, o, none⟩) M d, fun W hW => (quietLoadOne 65 (.tmp 74) rfl R1 1 rfl _ (rowCells HRv.out hW 1 _ rfl) _ Try.underlying65 rfl), ?_⟩; simp only [Act.put, List.setIfInBounds_toArray, List.set_cons_zero, List.set_cons_succ]; go_big_quiet_on)
                first | go_big_quiet_skip | (go_big_quiet_want; go_big_quiet_op; first | go_big_quiet_on | (refine ⟨_, fun _ _ => rfl, ?_⟩; go_big_quiet_on))
                first | go_big_quiet_skip | (go_big_quiet_want; go_big_quiet_op; first | go_big_quiet_on | (refine ⟨_, fun _ _ => rfl, ?_⟩; go_big_quiet_on))
                first | go_big_quiet_skip | (go_big_quiet_want; go_big_quiet_op; first | go_big_quiet_on | (refine ⟨_, fun _ _ => rfl, ?_⟩; go_big_quiet_on))
                first | go_big_quiet_skip | (go_big_quiet_want; go_big_quiet_op; first | go_big_quiet_on | (refine ⟨_, fun _ _ => rfl, ?_⟩; go_big_quiet_on))
                first | go_big_quiet_skip | (go_big_quiet_want; refine ⟨.int .i64 ps, fun W hW => (quietLoadOne 2 (.tmp 79) rfl B (o + m2 * 3) rfl (.int .i64 ps) ((hW.cell (p := ⟨B, o + m2 * 3, none⟩) lB2).trans HP.out) _ Try.underlying2 rfl), ?_⟩; simp only [Act.put, List.setIfInBounds_toArray, List.set_cons_zero, List.set_cons_succ]; go_big_quiet_on)
                first | go_big_quiet_skip | (go_big_quiet_want; go_big_quiet_op; first | go_big_quiet_on | (refine ⟨_, fun _ _ => rfl, ?_⟩; go_big_quiet_on))
                first | go_big_quiet_skip | (go_big_quiet_want; refine ⟨.int .i64 xs, fun W hW => (quietLoadOne 2 (.tmp 81) rfl qR1 0 rfl _ (rowCells HXv.out hW 0 _ rfl) _ Try.underlying2 rfl), ?_⟩; simp only [Act.put, List.setIfInBounds_toArray, List.set_cons_zero, List.set_cons_succ]; go_big_quiet_on)
                first | go_big_quiet_skip | (go_big_quiet_want; go_big_quiet_op; first | go_big_quiet_on | (refine ⟨_, fun _ _ => rfl, ?_⟩; go_big_quiet_on))
                first | go_big_quiet_skip | (go_big_quiet_want; go_big_quiet_op; first | go_big_quiet_on | (refine ⟨_, fun _ _ => rfl, ?_⟩; go_big_quiet_on))
                go_big_quiet_want; go_big_quiet_op; first | go_big_quiet_on | (refine ⟨_, fun _ _ => rfl, ?_⟩; go_big_quiet_on)
                refine wpQuiet_nil ?_
                intro X hX
                go_wp2_with fail
                go_ret
                exact ⟨by rw [hv]; rfl, HB2.out.trans ((hb2.trans (hX.mono hb2.size)).mono HB2.out.size)⟩
            · rcases c1 : decide (rk < 0)
              · by_cases m0 : m = 0
                · subst m0
                  have HT := Lib.hid (show heardAt r q 0 = true by rw [HE.out, c1, c2, c3]; rfl)
                  have e0 : decide ((0 : Int) < ((0 : Nat) : Int)) = false := rfl
                  refine wp_region_quiet (C := fun W => Below v2.heap.size v2 W) (by kernel_rfl) (by kernel_rfl) (Below.refl _ _).drew ?_
                  dsimp only
                  simp only [Act.put, List.setIfInBounds_toArray, List.set_cons_zero, List.set_cons_succ]
                  go_big_quiet_want; refine ⟨.agg #[.slice a N c, .slice (some ⟨B, o, none⟩) M d], fun W hW => (quietLoadCells 67 (.tmp 1) rfl R1 0 rfl [.slice a N c, .slice (some ⟨B, o, none⟩) M d] (rowAll HRv.out hW) _ Try.underlying67 rfl (by kernel_rfl)), ?_⟩; simp only [Act.put, List.setIfInBounds_toArray, List.set_cons_zero, List.set_cons_succ]; go_big_quiet_on
                  go_big_quiet_want; go_big_quiet_op; first | go_big_quiet_on | (refine ⟨_, fun _ _ => rfl, ?_⟩; go_big_quiet_on)
                  go_big_quiet_want; refine ⟨.int .i64 xs, fun W hW => (quietLoadOne 2 (.tmp 54) rfl qR1 0 rfl _ (rowCells HXv.out hW 0 _ rfl) _ Try.underlying2 rfl), ?_⟩; simp only [Act.put, List.setIfInBounds_toArray, List.set_cons_zero, List.set_cons_succ]; go_big_quiet_on
                  go_big_quiet_want; go_big_quiet_op; refine ⟨_, fun W hW => quietCall hW (HRx W (HNv.out W hW)).out, ?_⟩; go_big_quiet_on
                  go_big_quiet_want; go_big_quiet_op; first | go_big_quiet_on | (refine ⟨_, fun _ _ => rfl, ?_⟩; go_big_quiet_on)
                  go_big_quiet_want; go_big_quiet_op; first | go_big_quiet_on | (refine ⟨_, fun _ _ => rfl, ?_⟩; go_big_quiet_on)
                  first | go_big_quiet_skip | (go_big_quiet_want; go_big_quiet_op; first | go_big_quiet_on | (refine ⟨_, fun _ _ => rfl, ?_⟩; go_big_quiet_on))
                  first | go_big_quiet_skip | (go_big_quiet_want; refine ⟨.int .i64 xn, fun W hW => (quietLoadOne 2 (.tmp 59) rfl qR1 1 rfl _ (rowCells HXv.out hW 1 _ rfl) _ Try.underlying2 rfl), ?_⟩; simp only [Act.put, List.setIfInBounds_toArray, List.set_cons_zero, List.set_cons_succ]; go_big_quiet_on)
                  first | go_big_quiet_skip | (go_big_quiet_want; go_big_quiet_op; refine ⟨_, fun W hW => (by have := quietSame hW (l09Num_any xn W); rw [c2] at this; exact this), ?_⟩; go_big_quiet_on)
                  first | go_big_quiet_skip | (go_big_quiet_want; go_big_quiet_op; first | go_big_quiet_on | (refine ⟨_, fun _ _ => rfl, ?_⟩; go_big_quiet_on))
                  go_big_quiet_want; go_big_quiet_op; first | go_big_quiet_on | (refine ⟨_, fun _ _ => rfl, ?_⟩; go_big_quiet_on)
                  go_big_quiet_want; go_big_quiet_op; first | go_big_quiet_on | (refine ⟨_, fun _ _ => rfl, ?_⟩; go_big_quiet_on)
                  first | go_big_quiet_skip | (go_big_quiet_want; go_big_quiet_op; first | go_big_quiet_on | (refine ⟨_, fun _ _ => rfl, ?_⟩; go_big_quiet_on))
                  first | go_big_quiet_skip | (go_big_quiet_want; refine ⟨.int .i64 xg, fun W hW => (quietLoadOne 2 (.tmp 65) rfl qR1 2 rfl _ (rowCells HXv.out hW 2 _ rfl) _ Try.underlying2 rfl), ?_⟩; simp only [Act.put, List.setIfInBounds_toArray, List.set_cons_zero, List.set_cons_succ]; go_big_quiet_on)
                  first | go_big_quiet_skip | (go_big_quiet_want; go_big_quiet_op; refine ⟨_, fun W hW => (by have := quietSame hW (l02Time_any xg W); rw [c3] at this; exact this), ?_⟩; go_big_quiet_on)
                  first | go_big_quiet_skip | (go_big_quiet_want; go_big_quiet_op; first | go_big_quiet_on | (refine ⟨_, fun _ _ => rfl, ?_⟩; go_big_quiet_on))
                  go_big_quiet_want; go_big_quiet_op; first | go_big_quiet_on | (refine ⟨_, fun _ _ => rfl, ?_⟩; go_big_quiet_on)
                  go_big_quiet_want; go_big_quiet_op; first | go_big_quiet_on | (refine ⟨_, fun _ _ => rfl, ?_⟩; go_big_quiet_on)
                  first | go_big_quiet_skip | (go_big_quiet_want; go_big_quiet_op; first | go_big_quiet_on | (refine ⟨_, fun _ _ => rfl, ?_⟩; go_big_quiet_on))
                  first | go_big_quiet_skip | (go_big_quiet_want; go_big_quiet_op; first | go_big_quiet_on | (refine ⟨_, fun _ _ => rfl, ?_⟩; go_big_quiet_on))
                  first | go_big_quiet_skip | (go_big_quiet_want; go_big_quiet_op; first | go_big_quiet_on | (refine ⟨_, fun _ _ => rfl, ?_⟩; go_big_quiet_on))
                  first | go_big_quiet_skip | (go_big_quiet_want; go_big_quiet_op; first | go_big_quiet_on | (refine ⟨_, fun _ _ => rfl, ?_⟩; go_big_quiet_on))
                  first | go_big_quiet_skip | (go_big_quiet_want; refine ⟨.slice (some ⟨B, o, none⟩) M d, fun W hW => (quietLoadOne 65 (.tmp 74) rfl R1 1 rfl _ (rowCells HRv.out hW 1 _ rfl) _ Try.underlying65 rfl), ?_⟩; simp only [Act.put, List.setIfInBounds_toArray, List.set_cons_zero, List.set_cons_succ]; go_big_quiet_on)
                  first | go_big_quiet_skip | (go_big_quiet_want; go_big_quiet_op; first | go_big_quiet_on | (refine ⟨_, fun _ _ => rfl, ?_⟩; go_big_quiet_on))
                  first | go_big_quiet_skip | (go_big_quiet_want; go_big_quiet_op; first | go_big_quiet_on | (refine ⟨_, fun _ _ => rfl, ?_⟩; go_big_quiet_on))
                  first | go_big_quiet_skip | (go_big_quiet_want; go_big_quiet_op; first | go_big_quiet_on | (refine ⟨_, fun _ _ => rfl, ?_⟩; go_big_quiet_on))
                  first | go_big_quiet_skip | (go_big_quiet_want; go_big_quiet_op; first | go_big_quiet_on | (refine ⟨_, fun _ _ => rfl, ?_⟩; go_big_quiet_on))
                  first | go_big_quiet_skip | (go_big_quiet_want; refine ⟨.int .i64 ps, fun W hW => (quietLoadOne 2 (.tmp 79) rfl B (o + m2 * 3) rfl (.int .i64 ps) ((hW.cell (p := ⟨B, o + m2 * 3, none⟩) lB2).trans HP.out) _ Try.underlying2 rfl), ?_⟩; simp only [Act.put, List.setIfInBounds_toArray, List.set_cons_zero, List.set_cons_succ]; go_big_quiet_on)
                  first | go_big_quiet_skip | (go_big_quiet_want; go_big_quiet_op; first | go_big_quiet_on | (refine ⟨_, fun _ _ => rfl, ?_⟩; go_big_quiet_on))
                  first | go_big_quiet_skip | (go_big_quiet_want; refine ⟨.int .i64 xs, fun W hW => (quietLoadOne 2 (.tmp 81) rfl qR1 0 rfl _ (rowCells HXv.out hW 0 _ rfl) _ Try.underlying2 rfl), ?_⟩; simp only [Act.put, List.setIfInBounds_toArray, List.set_cons_zero, List.set_cons_succ]; go_big_quiet_on)
                  first | go_big_quiet_skip | (go_big_quiet_want; go_big_quiet_op; first | go_big_quiet_on | (refine ⟨_, fun _ _ => rfl, ?_⟩; go_big_quiet_on))
                  first | go_big_quiet_skip | (go_big_quiet_want; go_big_quiet_op; first | go_big_quiet_on | (refine ⟨_, fun _ _ => rfl, ?_⟩; go_big_quiet_on))
                  go_big_quiet_want; go_big_quiet_op; first | go_big_quiet_on | (refine ⟨_, fun _ _ => rfl, ?_⟩; go_big_quiet_on)
                  refine wpQuiet_nil ?_
                  intro X hX
                  go_wp2_with fail
                  go_roundw
                  case rel => exact ⟨0 + 1, by go_num, by omega, fun j hj => (Nat.lt_or_ge j (0)).elim (HA.out j) (fun g => (show j = 0 by omega) ▸ HT.out), hb2.trans (hX.mono hb2.size)⟩
                  case measure => simp [intOf]; omega
                · obtain ⟨m2, hm2e⟩ : ∃ m2, m = m2 + 1 := ⟨m - 1, by omega⟩
                  have e0 : decide ((0 : Int) < (m : Int)) = true := decide_eq_true (by omega)
                  have p0 : 0 < m := by omega
                  have e1 : IntKind.i64.wrap ((m : Int) - 1) = (m2 : Int) := by rw [IntWalk.i64_in _ (by omega)]; omega
                  have hm1 : (0 : Int) ≤ (m2 : Int) := by omega
                  have hm2 : (m2 : Int) < (M : Int) := by omega
                  have HP := Lib.hid (show v2.cell? ⟨B, o + m2 * 3, none⟩ = some (.int .i64 (hdAt q m2).s) from (KL2.out.below.cell (p := ⟨B, o + m2 * 3, none⟩) lB).trans (HCp.out m2 hm2e 0 _ rfl))
                  rw [show m - 1 = m2 by omega, decide_eq_false m0] at HE
                  generalize (hdAt q m2).s = ps at *
                  clear hm2e m0
                  by_cases c7 : ps < xs
                  · have HT := Lib.hid (show heardAt r q m = true by rw [HE.out, c1, c2, c3, decide_eq_true c7]; simp)
                    have e7 : decide (xs ≤ ps) = false := decide_eq_false (by omega)
                    clear c7
                    refine wp_region_quiet (C := fun W => Below v2.heap.size v2 W) (by kernel_rfl) (by kernel_rfl) (Below.refl _ _).drew ?_
                    dsimp only
                    simp only [Act.put, List.setIfInBounds_toArray, List.set_cons_zero, List.set_cons_succ]
                    go_big_quiet_want; refine ⟨.agg #[.slice a N c, .slice (some ⟨B, o, none⟩) M d], fun W hW => (quietLoadCells 67 (.tmp 1) rfl R1 0 rfl [.slice a N c, .slice (some ⟨B, o, none⟩) M d] (rowAll HRv.out hW) _ Try.underlying67 rfl (by kernel_rfl)), ?_⟩; simp only [Act.put, List.setIfInBounds_toArray, List.set_cons_zero, List.set_cons_succ]; go_big_quiet_on
                    go_big_quiet_want; go_big_quiet_op; first | go_big_quiet_on | (refine ⟨_, fun _ _ => rfl, ?_⟩; go_big_quiet_on)
                    go_big_quiet_want; refine ⟨.int .i64 xs, fun W hW => (quietLoadOne 2 (.tmp 54) rfl qR1 0 rfl _ (rowCells HXv.out hW 0 _ rfl) _ Try.underlying2 rfl), ?_⟩; simp only [Act.put, List.setIfInBounds_toArray, List.set_cons_zero, List.set_cons_succ]; go_big_quiet_on
                    go_big_quiet_want; go_big_quiet_op; refine ⟨_, fun W hW => quietCall hW (HRx W (HNv.out W hW)).out, ?_⟩; go_big_quiet_on
                    go_big_quiet_want; go_big_quiet_op; first | go_big_quiet_on | (refine ⟨_, fun _ _ => rfl, ?_⟩; go_big_quiet_on)
                    go_big_quiet_want; go_big_quiet_op; first | go_big_quiet_on | (refine ⟨_, fun _ _ => rfl, ?_⟩; go_big_quiet_on)
                    first | go_big_quiet_skip | (go_big_quiet_want; go_big_quiet_op; first | go_big_quiet_on | (refine ⟨_, fun _ _ => rfl, ?_⟩; go_big_quiet_on))
                    first | go_big_quiet_skip | (go_big_quiet_want; refine ⟨.int .i64 xn, fun W hW => (quietLoadOne 2 (.tmp 59) rfl qR1 1 rfl _ (rowCells HXv.out hW 1 _ rfl) _ Try.underlying2 rfl), ?_⟩; simp only [Act.put, List.setIfInBounds_toArray, List.set_cons_zero, List.set_cons_succ]; go_big_quiet_on)
                    first | go_big_quiet_skip | (go_big_quiet_want; go_big_quiet_op; refine ⟨_, fun W hW => (by have := quietSame hW (l09Num_any xn W); rw [c2] at this; exact this), ?_⟩; go_big_quiet_on)
                    first | go_big_quiet_skip | (go_big_quiet_want; go_big_quiet_op; first | go_big_quiet_on | (refine ⟨_, fun _ _ => rfl, ?_⟩; go_big_quiet_on))
                    go_big_quiet_want; go_big_quiet_op; first | go_big_quiet_on | (refine ⟨_, fun _ _ => rfl, ?_⟩; go_big_quiet_on)
                    go_big_quiet_want; go_big_quiet_op; first | go_big_quiet_on | (refine ⟨_, fun _ _ => rfl, ?_⟩; go_big_quiet_on)
                    first | go_big_quiet_skip | (go_big_quiet_want; go_big_quiet_op; first | go_big_quiet_on | (refine ⟨_, fun _ _ => rfl, ?_⟩; go_big_quiet_on))
                    first | go_big_quiet_skip | (go_big_quiet_want; refine ⟨.int .i64 xg, fun W hW => (quietLoadOne 2 (.tmp 65) rfl qR1 2 rfl _ (rowCells HXv.out hW 2 _ rfl) _ Try.underlying2 rfl), ?_⟩; simp only [Act.put, List.setIfInBounds_toArray, List.set_cons_zero, List.set_cons_succ]; go_big_quiet_on)
                    first | go_big_quiet_skip | (go_big_quiet_want; go_big_quiet_op; refine ⟨_, fun W hW => (by have := quietSame hW (l02Time_any xg W); rw [c3] at this; exact this), ?_⟩; go_big_quiet_on)
                    first | go_big_quiet_skip | (go_big_quiet_want; go_big_quiet_op; first | go_big_quiet_on | (refine ⟨_, fun _ _ => rfl, ?_⟩; go_big_quiet_on))
                    go_big_quiet_want; go_big_quiet_op; first | go_big_quiet_on | (refine ⟨_, fun _ _ => rfl, ?_⟩; go_big_quiet_on)
                    go_big_quiet_want; go_big_quiet_op; first | go_big_quiet_on | (refine ⟨_, fun _ _ => rfl, ?_⟩; go_big_quiet_on)
                    first | go_big_quiet_skip | (go_big_quiet_want; go_big_quiet_op; first | go_big_quiet_on | (refine ⟨_, fun _ _ => rfl, ?_⟩; go_big_quiet_on))
                    first | go_big_quiet_skip | (go_big_quiet_want; go_big_quiet_op; first | go_big_quiet_on | (refine ⟨_, fun _ _ => rfl, ?_⟩; go_big_quiet_on))
                    first | go_big_quiet_skip | (go_big_quiet_want; go_big_quiet_op; first | go_big_quiet_on | (refine ⟨_, fun _ _ => rfl, ?_⟩; go_big_quiet_on))
                    first | go_big_quiet_skip | (go_big_quiet_want; go_big_quiet_op; first | go_big_quiet_on | (refine ⟨_, fun _ _ => rfl, ?_⟩; go_big_quiet_on))
                    first | go_big_quiet_skip | (go_big_quiet_want; refine ⟨.slice (some ⟨B, o, none⟩) M d, fun W hW => (quietLoadOne 65 (.tmp 74) rfl R1 1 rfl _ (rowCells HRv.out hW 1 _ rfl) _ Try.underlying65 rfl), ?_⟩; simp only [Act.put, List.setIfInBounds_toArray, List.set_cons_zero, List.set_cons_succ]; go_big_quiet_on)
                    first | go_big_quiet_skip | (go_big_quiet_want; go_big_quiet_op; first | go_big_quiet_on | (refine ⟨_, fun _ _ => rfl, ?_⟩; go_big_quiet_on))
                    first | go_big_quiet_skip | (go_big_quiet_want; go_big_quiet_op; first | go_big_quiet_on | (refine ⟨_, fun _ _ => rfl, ?_⟩; go_big_quiet_on))
                    first | go_big_quiet_skip | (go_big_quiet_want; go_big_quiet_op; first | go_big_quiet_on | (refine ⟨_, fun _ _ => rfl, ?_⟩; go_big_quiet_on))
                    first | go_big_quiet_skip | (go_big_quiet_want; go_big_quiet_op; first | go_big_quiet_on | (refine ⟨_, fun _ _ => rfl, ?_⟩; go_big_quiet_on))
                    first | go_big_quiet_skip | (go_big_quiet_want; refine ⟨.int .i64 ps, fun W hW => (quietLoadOne 2 (.tmp 79) rfl B (o + m2 * 3) rfl (.int .i64 ps) ((hW.cell (p := ⟨B, o + m2 * 3, none⟩) lB2).trans HP.out) _ Try.underlying2 rfl), ?_⟩; simp only [Act.put, List.setIfInBounds_toArray, List.set_cons_zero, List.set_cons_succ]; go_big_quiet_on)
                    first | go_big_quiet_skip | (go_big_quiet_want; go_big_quiet_op; first | go_big_quiet_on | (refine ⟨_, fun _ _ => rfl, ?_⟩; go_big_quiet_on))
                    first | go_big_quiet_skip | (go_big_quiet_want; refine ⟨.int .i64 xs, fun W hW => (quietLoadOne 2 (.tmp 81) rfl qR1 0 rfl _ (rowCells HXv.out hW 0 _ rfl) _ Try.underlying2 rfl), ?_⟩; simp only [Act.put, List.setIfInBounds_toArray, List.set_cons_zero, List.set_cons_succ]; go_big_quiet_on)
                    first | go_big_quiet_skip | (go_big_quiet_want; go_big_quiet_op; first | go_big_quiet_on | (refine ⟨_, fun _ _ => rfl, ?_⟩; go_big_quiet_on))
                    first | go_big_quiet_skip | (go_big_quiet_want; go_big_quiet_op; first | go_big_quiet_on | (refine ⟨_, fun _ _ => rfl, ?_⟩; go_big_quiet_on))
                    go_big_quiet_want; go_big_quiet_op; first | go_big_quiet_on | (refine ⟨_, fun _ _ => rfl, ?_⟩; go_big_quiet_on)
                    refine wpQuiet_nil ?_
                    intro X hX
                    go_wp2_with fail
                    go_roundw
                    case rel => exact ⟨m + 1, by go_num, by omega, fun j hj => (Nat.lt_or_ge j (m)).elim (HA.out j) (fun g => (show j = m by omega) ▸ HT.out), hb2.trans (hX.mono hb2.size)⟩
                    case measure => simp [intOf]; omega
                  · have hv := HNo.out (by rw [HE.out, c1, c2, c3, decide_eq_false c7]; simp)
                    have e7 : decide (xs ≤ ps) = true := decide_eq_true (by omega)
                    clear c7
                    refine wp_region_quiet (C := fun W => Below v2.heap.size v2 W) (by kernel_rfl) (by kernel_rfl) (Below.refl _ _).drew ?_
                    dsimp only
                    simp only [Act.put, List.setIfInBounds_toArray, List.set_cons_zero, List.set_cons_succ]
                    go_big_quiet_want; refine ⟨.agg #[.slice a N c, .slice (some ⟨B, o, none⟩) M d], fun W hW => (quietLoadCells 67 (.tmp 1) rfl R1 0 rfl [.slice a N c, .slice (some ⟨B, o, none⟩) M d] (rowAll HRv.out hW) _ Try.underlying67 rfl (by kernel_rfl)), ?_⟩; simp only [Act.put, List.setIfInBounds_toArray, List.set_cons_zero, List.set_cons_succ]; go_big_quiet_on
                    go_big_quiet_want; go_big_quiet_op; first | go_big_quiet_on | (refine ⟨_, fun _ _ => rfl, ?_⟩; go_big_quiet_on)
                    go_big_quiet_want; refine ⟨.int .i64 xs, fun W hW => (quietLoadOne 2 (.tmp 54) rfl qR1 0 rfl _ (rowCells HXv.out hW 0 _ rfl) _ Try.underlying2 rfl), ?_⟩; simp only [Act.put, List.setIfInBounds_toArray, List.set_cons_zero, List.set_cons_succ]; go_big_quiet_on
                    go_big_quiet_want; go_big_quiet_op; refine ⟨_, fun W hW => quietCall hW (HRx W (HNv.out W hW)).out, ?_⟩; go_big_quiet_on
                    go_big_quiet_want; go_big_quiet_op; first | go_big_quiet_on | (refine ⟨_, fun _ _ => rfl, ?_⟩; go_big_quiet_on)
                    go_big_quiet_want; go_big_quiet_op; first | go_big_quiet_on | (refine ⟨_, fun _ _ => rfl, ?_⟩; go_big_quiet_on)
                    first | go_big_quiet_skip | (go_big_quiet_want; go_big_quiet_op; first | go_big_quiet_on | (refine ⟨_, fun _ _ => rfl, ?_⟩; go_big_quiet_on))
                    first | go_big_quiet_skip | (go_big_quiet_want; refine ⟨.int .i64 xn, fun W hW => (quietLoadOne 2 (.tmp 59) rfl qR1 1 rfl _ (rowCells HXv.out hW 1 _ rfl) _ Try.underlying2 rfl), ?_⟩; simp only [Act.put, List.setIfInBounds_toArray, List.set_cons_zero, List.set_cons_succ]; go_big_quiet_on)
                    first | go_big_quiet_skip | (go_big_quiet_want; go_big_quiet_op; refine ⟨_, fun W hW => (by have := quietSame hW (l09Num_any xn W); rw [c2] at this; exact this), ?_⟩; go_big_quiet_on)
                    first | go_big_quiet_skip | (go_big_quiet_want; go_big_quiet_op; first | go_big_quiet_on | (refine ⟨_, fun _ _ => rfl, ?_⟩; go_big_quiet_on))
                    go_big_quiet_want; go_big_quiet_op; first | go_big_quiet_on | (refine ⟨_, fun _ _ => rfl, ?_⟩; go_big_quiet_on)
                    go_big_quiet_want; go_big_quiet_op; first | go_big_quiet_on | (refine ⟨_, fun _ _ => rfl, ?_⟩; go_big_quiet_on)
                    first | go_big_quiet_skip | (go_big_quiet_want; go_big_quiet_op; first | go_big_quiet_on | (refine ⟨_, fun _ _ => rfl, ?_⟩; go_big_quiet_on))
                    first | go_big_quiet_skip | (go_big_quiet_want; refine ⟨.int .i64 xg, fun W hW => (quietLoadOne 2 (.tmp 65) rfl qR1 2 rfl _ (rowCells HXv.out hW 2 _ rfl) _ Try.underlying2 rfl), ?_⟩; simp only [Act.put, List.setIfInBounds_toArray, List.set_cons_zero, List.set_cons_succ]; go_big_quiet_on)
                    first | go_big_quiet_skip | (go_big_quiet_want; go_big_quiet_op; refine ⟨_, fun W hW => (by have := quietSame hW (l02Time_any xg W); rw [c3] at this; exact this), ?_⟩; go_big_quiet_on)
                    first | go_big_quiet_skip | (go_big_quiet_want; go_big_quiet_op; first | go_big_quiet_on | (refine ⟨_, fun _ _ => rfl, ?_⟩; go_big_quiet_on))
                    go_big_quiet_want; go_big_quiet_op; first | go_big_quiet_on | (refine ⟨_, fun _ _ => rfl, ?_⟩; go_big_quiet_on)
                    go_big_quiet_want; go_big_quiet_op; first | go_big_quiet_on | (refine ⟨_, fun _ _ => rfl, ?_⟩; go_big_quiet_on)
                    first | go_big_quiet_skip | (go_big_quiet_want; go_big_quiet_op; first | go_big_quiet_on | (refine ⟨_, fun _ _ => rfl, ?_⟩; go_big_quiet_on))
                    first | go_big_quiet_skip | (go_big_quiet_want; go_big_quiet_op; first | go_big_quiet_on | (refine ⟨_, fun _ _ => rfl, ?_⟩; go_big_quiet_on))
                    first | go_big_quiet_skip | (go_big_quiet_want; go_big_quiet_op; first | go_big_quiet_on | (refine ⟨_, fun _ _ => rfl, ?_⟩; go_big_quiet_on))
                    first | go_big_quiet_skip | (go_big_quiet_want; go_big_quiet_op; first | go_big_quiet_on | (refine ⟨_, fun _ _ => rfl, ?_⟩; go_big_quiet_on))
                    first | go_big_quiet_skip | (go_big_quiet_want; refine ⟨.slice (some ⟨B, o, none⟩) M d, fun W hW => (quietLoadOne 65 (.tmp 74) rfl R1 1 rfl _ (rowCells HRv.out hW 1 _ rfl) _ Try.underlying65 rfl), ?_⟩; simp only [Act.put, List.setIfInBounds_toArray, List.set_cons_zero, List.set_cons_succ]; go_big_quiet_on)
                    first | go_big_quiet_skip | (go_big_quiet_want; go_big_quiet_op; first | go_big_quiet_on | (refine ⟨_, fun _ _ => rfl, ?_⟩; go_big_quiet_on))
                    first | go_big_quiet_skip | (go_big_quiet_want; go_big_quiet_op; first | go_big_quiet_on | (refine ⟨_, fun _ _ => rfl, ?_⟩; go_big_quiet_on))
                    first | go_big_quiet_skip | (go_big_quiet_want; go_big_quiet_op; first | go_big_quiet_on | (refine ⟨_, fun _ _ => rfl, ?_⟩; go_big_quiet_on))
                    first | go_big_quiet_skip | (go_big_quiet_want; go_big_quiet_op; first | go_big_quiet_on | (refine ⟨_, fun _ _ => rfl, ?_⟩; go_big_quiet_on))
                    first | go_big_quiet_skip | (go_big_quiet_want; refine ⟨.int .i64 ps, fun W hW => (quietLoadOne 2 (.tmp 79) rfl B (o + m2 * 3) rfl (.int .i64 ps) ((hW.cell (p := ⟨B, o + m2 * 3, none⟩) lB2).trans HP.out) _ Try.underlying2 rfl), ?_⟩; simp only [Act.put, List.setIfInBounds_toArray, List.set_cons_zero, List.set_cons_succ]; go_big_quiet_on)
                    first | go_big_quiet_skip | (go_big_quiet_want; go_big_quiet_op; first | go_big_quiet_on | (refine ⟨_, fun _ _ => rfl, ?_⟩; go_big_quiet_on))
                    first | go_big_quiet_skip | (go_big_quiet_want; refine ⟨.int .i64 xs, fun W hW => (quietLoadOne 2 (.tmp 81) rfl qR1 0 rfl _ (rowCells HXv.out hW 0 _ rfl) _ Try.underlying2 rfl), ?_⟩; simp only [Act.put, List.setIfInBounds_toArray, List.set_cons_zero, List.set_cons_succ]; go_big_quiet_on)
                    first | go_big_quiet_skip | (go_big_quiet_want; go_big_quiet_op; first | go_big_quiet_on | (refine ⟨_, fun _ _ => rfl, ?_⟩; go_big_quiet_on))
                    first | go_big_quiet_skip | (go_big_quiet_want; go_big_quiet_op; first | go_big_quiet_on | (refine ⟨_, fun _ _ => rfl, ?_⟩; go_big_quiet_on))
                    go_big_quiet_want; go_big_quiet_op; first | go_big_quiet_on | (refine ⟨_, fun _ _ => rfl, ?_⟩; go_big_quiet_on)
                    refine wpQuiet_nil ?_
                    intro X hX
                    go_wp2_with fail
                    go_ret
                    exact ⟨by rw [hv]; rfl, HB2.out.trans ((hb2.trans (hX.mono hb2.size)).mono HB2.out.size)⟩
              · have hv := HNo.out (by rw [HE.out, c1]; simp)
                refine wp_region_quiet (C := fun W => Below v2.heap.size v2 W) (by kernel_rfl) (by kernel_rfl) (Below.refl _ _).drew ?_
                dsimp only
                simp only [Act.put, List.setIfInBounds_toArray, List.set_cons_zero, List.set_cons_succ]
                go_big_quiet_want; refine ⟨.agg #[.slice a N c, .slice (some ⟨B, o, none⟩) M d], fun W hW => (quietLoadCells 67 (.tmp 1) rfl R1 0 rfl [.slice a N c, .slice (some ⟨B, o, none⟩) M d] (rowAll HRv.out hW) _ Try.underlying67 rfl (by kernel_rfl)), ?_⟩; simp only [Act.put, List.setIfInBounds_toArray, List.set_cons_zero, List.set_cons_succ]; go_big_quiet_on
                go_big_quiet_want; go_big_quiet_op; first | go_big_quiet_on | (refine ⟨_, fun _ _ => rfl, ?_⟩; go_big_quiet_on)
                go_big_quiet_want; refine ⟨.int .i64 xs, fun W hW => (quietLoadOne 2 (.tmp 54) rfl qR1 0 rfl _ (rowCells HXv.out hW 0 _ rfl) _ Try.underlying2 rfl), ?_⟩; simp only [Act.put, List.setIfInBounds_toArray, List.set_cons_zero, List.set_cons_succ]; go_big_quiet_on
                go_big_quiet_want; go_big_quiet_op; refine ⟨_, fun W hW => quietCall hW (HRx W (HNv.out W hW)).out, ?_⟩; go_big_quiet_on
                go_big_quiet_want; go_big_quiet_op; first | go_big_quiet_on | (refine ⟨_, fun _ _ => rfl, ?_⟩; go_big_quiet_on)
                go_big_quiet_want; go_big_quiet_op; first | go_big_quiet_on | (refine ⟨_, fun _ _ => rfl, ?_⟩; go_big_quiet_on)
                first | go_big_quiet_skip | (go_big_quiet_want; go_big_quiet_op; first | go_big_quiet_on | (refine ⟨_, fun _ _ => rfl, ?_⟩; go_big_quiet_on))
                first | go_big_quiet_skip | (go_big_quiet_want; refine ⟨.int .i64 xn, fun W hW => (quietLoadOne 2 (.tmp 59) rfl qR1 1 rfl _ (rowCells HXv.out hW 1 _ rfl) _ Try.underlying2 rfl), ?_⟩; simp only [Act.put, List.setIfInBounds_toArray, List.set_cons_zero, List.set_cons_succ]; go_big_quiet_on)
                first | go_big_quiet_skip | (go_big_quiet_want; go_big_quiet_op; refine ⟨_, fun W hW => (by have := quietSame hW (l09Num_any xn W); rw [c2] at this; exact this), ?_⟩; go_big_quiet_on)
                first | go_big_quiet_skip | (go_big_quiet_want; go_big_quiet_op; first | go_big_quiet_on | (refine ⟨_, fun _ _ => rfl, ?_⟩; go_big_quiet_on))
                go_big_quiet_want; go_big_quiet_op; first | go_big_quiet_on | (refine ⟨_, fun _ _ => rfl, ?_⟩; go_big_quiet_on)
                go_big_quiet_want; go_big_quiet_op; first | go_big_quiet_on | (refine ⟨_, fun _ _ => rfl, ?_⟩; go_big_quiet_on)
                first | go_big_quiet_skip | (go_big_quiet_want; go_big_quiet_op; first | go_big_quiet_on | (refine ⟨_, fun _ _ => rfl, ?_⟩; go_big_quiet_on))
                first | go_big_quiet_skip | (go_big_quiet_want; refine ⟨.int .i64 xg, fun W hW => (quietLoadOne 2 (.tmp 65) rfl qR1 2 rfl _ (rowCells HXv.out hW 2 _ rfl) _ Try.underlying2 rfl), ?_⟩; simp only [Act.put, List.setIfInBounds_toArray, List.set_cons_zero, List.set_cons_succ]; go_big_quiet_on)
                first | go_big_quiet_skip | (go_big_quiet_want; go_big_quiet_op; refine ⟨_, fun W hW => (by have := quietSame hW (l02Time_any xg W); rw [c3] at this; exact this), ?_⟩; go_big_quiet_on)
                first | go_big_quiet_skip | (go_big_quiet_want; go_big_quiet_op; first | go_big_quiet_on | (refine ⟨_, fun _ _ => rfl, ?_⟩; go_big_quiet_on))
                go_big_quiet_want; go_big_quiet_op; first | go_big_quiet_on | (refine ⟨_, fun _ _ => rfl, ?_⟩; go_big_quiet_on)
                go_big_quiet_want; go_big_quiet_op; first | go_big_quiet_on | (refine ⟨_, fun _ _ => rfl, ?_⟩; go_big_quiet_on)
                first | go_big_quiet_skip | (go_big_quiet_want; go_big_quiet_op; first | go_big_quiet_on | (refine ⟨_, fun _ _ => rfl, ?_⟩; go_big_quiet_on))
                first | go_big_quiet_skip | (go_big_quiet_want; go_big_quiet_op; first | go_big_quiet_on | (refine ⟨_, fun _ _ => rfl, ?_⟩; go_big_quiet_on))
                first | go_big_quiet_skip | (go_big_quiet_want; go_big_quiet_op; first | go_big_quiet_on | (refine ⟨_, fun _ _ => rfl, ?_⟩; go_big_quiet_on))
                first | go_big_quiet_skip | (go_big_quiet_want; go_big_quiet_op; first | go_big_quiet_on | (refine ⟨_, fun _ _ => rfl, ?_⟩; go_big_quiet_on))
                first | go_big_quiet_skip | (go_big_quiet_want; refine ⟨.slice (some ⟨B, o, none⟩) M d, fun W hW => (quietLoadOne 65 (.tmp 74) rfl R1 1 rfl _ (rowCells HRv.out hW 1 _ rfl) _ Try.underlying65 rfl), ?_⟩; simp only [Act.put, List.setIfInBounds_toArray, List.set_cons_zero, List.set_cons_succ]; go_big_quiet_on)
                first | go_big_quiet_skip | (go_big_quiet_want; go_big_quiet_op; first | go_big_quiet_on | (refine ⟨_, fun _ _ => rfl, ?_⟩; go_big_quiet_on))
                first | go_big_quiet_skip | (go_big_quiet_want; go_big_quiet_op; first | go_big_quiet_on | (refine ⟨_, fun _ _ => rfl, ?_⟩; go_big_quiet_on))
                first | go_big_quiet_skip | (go_big_quiet_want; go_big_quiet_op; first | go_big_quiet_on | (refine ⟨_, fun _ _ => rfl, ?_⟩; go_big_quiet_on))
                first | go_big_quiet_skip | (go_big_quiet_want; go_big_quiet_op; first | go_big_quiet_on | (refine ⟨_, fun _ _ => rfl, ?_⟩; go_big_quiet_on))
                first | go_big_quiet_skip | (go_big_quiet_want; refine ⟨.int .i64 ps, fun W hW => (quietLoadOne 2 (.tmp 79) rfl B (o + m2 * 3) rfl (.int .i64 ps) ((hW.cell (p := ⟨B, o + m2 * 3, none⟩) lB2).trans HP.out) _ Try.underlying2 rfl), ?_⟩; simp only [Act.put, List.setIfInBounds_toArray, List.set_cons_zero, List.set_cons_succ]; go_big_quiet_on)
                first | go_big_quiet_skip | (go_big_quiet_want; go_big_quiet_op; first | go_big_quiet_on | (refine ⟨_, fun _ _ => rfl, ?_⟩; go_big_quiet_on))
                first | go_big_quiet_skip | (go_big_quiet_want; refine ⟨.int .i64 xs, fun W hW => (quietLoadOne 2 (.tmp 81) rfl qR1 0 rfl _ (rowCells HXv.out hW 0 _ rfl) _ Try.underlying2 rfl), ?_⟩; simp only [Act.put, List.setIfInBounds_toArray, List.set_cons_zero, List.set_cons_succ]; go_big_quiet_on)
                first | go_big_quiet_skip | (go_big_quiet_want; go_big_quiet_op; first | go_big_quiet_on | (refine ⟨_, fun _ _ => rfl, ?_⟩; go_big_quiet_on))
                first | go_big_quiet_skip | (go_big_quiet_want; go_big_quiet_op; first | go_big_quiet_on | (refine ⟨_, fun _ _ => rfl, ?_⟩; go_big_quiet_on))
                go_big_quiet_want; go_big_quiet_op; first | go_big_quiet_on | (refine ⟨_, fun _ _ => rfl, ?_⟩; go_big_quiet_on)
                refine wpQuiet_nil ?_
                intro X hX
                go_wp2_with fail
                go_ret
                exact ⟨by rw [hv]; rfl, HB2.out.trans ((hb2.trans (hX.mono hb2.size)).mono HB2.out.size)⟩
        · have hv := HVy.out (by have := HN.out; omega) HRa.out (fun i hi => HA.out i (by have := HM.out; omega))
          go_wp2_with (first
            | (refine wpList_load_one rfl 65 (.tmp 42) rfl R1 1 rfl 67 #[.slice a N c, .slice b M d] (0, 0) HR1.out (.slice b M d) rfl _ Try.underlying65 rfl (by kernel_rfl) ?_))
          go_ret
          exact ⟨by rw [hv]; rfl, HB2.out.trans (hb.mono HB2.out.size)⟩
end Go.Proofs.Ytdhmcepnmbchkaa
