/- Drawn lists of Cans: what the draw leaves. Nothing that was there is written, but the source. -/
import Derived.Test.YtmfnbbjhaolhgaaDrawCans
namespace Go.Proofs.Ytmfnbbjhaolhgaa
open Go.RowKit
set_option linter.unusedVariables false

/-- The cells of some Cans. -/
def canCells : List (Int × ByteArray) → List Value
  | [] => []
  | x :: l => .int .i64 x.1 :: .string x.2 :: canCells l
theorem canCells_append (l m : List (Int × ByteArray)) : canCells (l ++ m) = canCells l ++ canCells m := by
  induction l with
  | nil => rfl
  | cons x l ih => simp [canCells, ih]
theorem canCells_at (l : List (Int × ByteArray)) : ∀ (i : Nat) x, l[i]? = some x → (canCells l)[i * 2]? = some (.int .i64 x.1) ∧ (canCells l)[i * 2 + 1]? = some (.string x.2) := by
  induction l with
  | nil => intro i x h; simp at h
  | cons y l ih =>
    intro i x h
    rcases i with _ | i
    · simp at h
      subst h
      exact ⟨rfl, rfl⟩
    · have := ih i x (by simpa using h)
      rw [show (i + 1) * 2 = i * 2 + 1 + 1 by omega]
      exact this
theorem CansIn.of_row {w : World} {base : Nat} {T : TypeId} {v : Value} {l : List (Int × ByteArray)} (h : w.ownsRow base T 2 v l.length (canCells l)) : ∃ a cap, v = .slice a l.length cap ∧ CansIn w a l := by
  have h' := h
  rcases h'.2 with ⟨hv, hn⟩ | ⟨g, cap, cur, hv, hb, hh, hcap, hm, hsz, ht⟩
  · have hl : l = [] := List.eq_nil_of_length_eq_zero hn
    subst hl
    exact ⟨none, 0, hv, .inl rfl⟩
  · refine ⟨_, cap, hv, .inr ⟨g, 0, rfl, ?_, fun i x hx => ?_⟩⟩
    · exact (World.ownsRow.lt h g (by rw [hv]; rfl)).2
    · have hc := World.ownsRow.cells h (g := g) (by rw [hv]; rfl)
      have h2 := canCells_at l i x hx
      have hadd : ∀ j, (⟨g, 0, none⟩ : Addr).add j = ⟨g, 0 + j, none⟩ := fun j => by unfold Addr.add; split <;> simp_all
      have e0 := hc _ _ h2.1
      have e1 := hc _ _ h2.2
      rw [hadd] at e0 e1
      exact ⟨e0, by rw [Nat.add_assoc]; exact e1⟩
theorem ownsRow_far {w w' : World} {base S : Nat} {T : TypeId} {size n : Nat} {v : Value} {xs : List Value} (h : w.ownsRow base T size v n xs) (hg : w.grownBy w' (some S)) (hS : S < base) : w'.ownsRow base T size v n xs := by
  refine h.kept hg ?_
  rcases hv : v.ownBlock with _ | g
  · exact .inl rfl
  · right
    intro e
    have := (World.ownsRow.lt h g hv).1
    have := Option.some.inj e
    omega
theorem grownBy_app {w w' w'' : World} {S base : Nat} {T : TypeId} {size n : Nat} {v : Value} {xs : List Value} (hg : w.grownBy w' (some S)) (ho : w'.ownsRow base T size v n xs) (h : w'.grownBy w'' v.ownBlock) (hb : w.heap.size ≤ base) : w.grownBy w'' (some S) :=
  ⟨h.os.trans hg.os, h.tape.trans hg.tape, h.output.trans hg.output, Nat.le_trans hg.size h.size, fun k hk hne =>
    (h.block k (Nat.lt_of_lt_of_le hk hg.size) fun e => by have := (World.ownsRow.lt ho k e.symm).1; omega).trans (hg.block k hk hne)⟩
theorem two_one (n : Int) (s : ByteArray) : ∀ u ∈ [Value.int .i64 n, Value.string s], u.oneCell' = true := by
  intro u hu
  simp at hu
  rcases hu with rfl | rfl <;> rfl
theorem DrawList.info : (Try.prog.info? 29).map (fun i => (i.zero, i.size, i.bytes)) = some (some (.agg #[.int .i64 0, .string ByteArray.empty]), 2, 24) := by kernel_rfl

section
variable {w u u' : World} {S : Nat} {a : Option Addr} {len cap : Nat} {zs : List Int}
/-- A drawn list of Cans. -/
def NextCans (w : World) (S : Nat) (a : Option Addr) (len cap : Nat) (zs : List Int) (u : World) (e : Ending) (u' : World) : Prop :=
  ∃ (a' : Option Addr) (cap' : Nat) (l : List (Int × ByteArray)), e = .returned (.slice a' l.length cap') ∧ CansIn u' a' l ∧ CansOk l ∧ l.length ≤ 4 ∧ Dr w S a len cap zs u' ∧ u.grownBy u' (some S)
/-- The same, as a row of the draw's own. -/
def NextCansO (w : World) (S : Nat) (a : Option Addr) (len cap : Nat) (zs : List Int) (u : World) (e : Ending) (u' : World) : Prop :=
  ∃ (v : Value) (l : List (Int × ByteArray)), e = .returned v ∧ u'.ownsRow u.heap.size 29 2 v l.length (canCells l) ∧ CansOk l ∧ l.length ≤ 4 ∧ Dr w S a len cap zs u' ∧ u.grownBy u' (some S)
set_option maxHeartbeats 4000000 in
theorem cans_next_own (h : Dr w S a len cap zs u) : Calls Try.prog 35 #[.pointer (some ⟨S, 0, none⟩)] u (NextCansO w S a len cap zs u) := by
  obtain ⟨i0, hi, hz0, hz1, hz2⟩ := info_parts DrawList.info
  have hS := h.src.lt
  have HM : Hid ((u.alloc (.cells #[] 29)).ownsRow u.heap.size 29 2 (.slice (some ⟨u.heap.size, 0, none⟩) 0 0) 0 []) := Lib.hid (World.ownsRow_lit u #[] 0 (Nat.le_refl _) (by unfold maxLen; omega) rfl)
  go_enter Try.func35, Try.ntmps35
  go_wp2_with fail
  refine (n_next (h.alloc _) 5 (by omega)).mono ?_
  rintro e u1 ⟨k1, rfl, k10, k1m, h1, g1⟩
  have HO := Lib.hid (ownsRow_far HM.out g1 hS)
  have gg1 := grownBy_trans (World.grownBy_alloc _ _ _) g1
  have hk5 : k1 < 5 := by omega
  clear HM k1m
  go_wp2_with fail
  go_loopw [3, 4, 5] (fun v i _ wr => ∃ (k : Int) (l : List (Int × ByteArray)), i = .int .i64 k ∧ 0 ≤ k ∧ (l.length : Int) + k ≤ 4 ∧ CansOk l ∧ wr.ownsRow u.heap.size 29 2 v l.length (canCells l) ∧ Dr w S a len cap zs wr ∧ u.grownBy wr (some S)) (fun _ i _ _ => (intOf i).toNat)
  case atStart => exact ⟨k1, [], rfl, k10, by simp; omega, (fun x hx => by cases hx), HO.out, h1, gg1⟩
  case round =>
    obtain ⟨k, l, rfl, hk0, hl4, hok, hown, hD, hg⟩ := hrel
    have HK := Lib.hid hok
    have HW := Lib.hid hown
    clear hok hown
    by_cases hkp : 0 < k
    · go_wp2_with fail
      refine (can_next hD).mono ?_
      rintro e w1 ⟨n, s, rfl, hn, hs, hD1, g1⟩
      have HW2 := Lib.hid ((ownsRow_far HW.out g1 hS).alloc (.cells #[.int .i64 n, .string s] 29))
      have hD2 := hD1.alloc (.cells #[.int .i64 n, .string s] 29)
      have g2 := grownBy_alloc (grownBy_trans hg g1) (.cells #[.int .i64 n, .string s] 29)
      have HK9 : Hid (CansOk (l ++ [(n, s)])) := Lib.hid (fun x hx => by
        rcases List.mem_append.1 hx with hx | hx
        · exact HK.out x hx
        · simp at hx
          subst hx
          show (-9223372036854775808 ≤ n ∧ n ≤ 9223372036854775807) ∧ s.size ≤ maxLen
          exact ⟨by omega, by unfold maxLen; omega⟩)
      have neC : w1.heap.size ≠ S := by have := hD1.src.lt; omega
      clear hD hg g1 hD1
      go_wp2_with fail
      refine (specCanRight_any n s _ (by omega) (by omega) (by unfold maxLen; omega)).mono ?_
      rintro e w3 ⟨rfl, h3⟩
      have HW3 := Lib.hid (ownsRow_far HW2.out (grown_of_below h3) hS)
      have hD3 := hD2.made h3
      have g3 := grownBy_trans g2 (grown_of_below h3)
      have z3 : w1.heap.size < w3.heap.size := by have := h3.size; simp at this; omega
      have d0 : w3.cell? ⟨w1.heap.size, 0, none⟩ = some (.int .i64 n) := by rw [h3.cell (by simp)]; simp
      have d1 : w3.cell? ⟨w1.heap.size, 1, none⟩ = some (.string s) := by rw [h3.cell (by simp)]; simp
      clear hD2 g2 HW2 h3
      rcases hcb : canB n s
      · go_wp2_with fail
        refine (one_next hD3 8 (by omega)).mono ?_
        rintro e w4 ⟨o, rfl, hD4, g4⟩
        have HW4 := Lib.hid (ownsRow_far HW3.out g4 hS)
        have g5 := grownBy_trans g3 g4
        have y0 := (far_cell g4 z3 neC 0).1.trans d0
        have y1 := (far_cell g4 z3 neC 1).1.trans d1
        cases o
        · go_wp2
          go_roundw
          case rel => exact ⟨k - 1, l, by go_num, by omega, by omega, HK.out, HW4.out, hD4, g5⟩
          case measure => simp [intOf]; omega
        · have hW4 := HW4.out
          go_wp2_with (at_builtin; refine wpList_append_own _ rfl (.tmp 21) (.tmp 23) 23 rfl u.heap.size 29 i0 (.agg #[.int .i64 0, .string ByteArray.empty]) 2 24 Try.underlying23 hi hz0 hz1 hz2 rfl (by decide) _ l.length (canCells l) rfl (hW4.alloc _) ⟨w4.heap.size, 0, none⟩ 1 1 [.int .i64 n, .string s] rfl rfl (cells_first (heap_alloc_new w4 _)) (two_one n s) (by unfold maxLen; omega) (by omega) (by have := g5.size; simp; omega) ?_; intro v' w9 hown9 hgrow _)
          have hD9 := (hD4.alloc (.cells #[.int .i64 n, .string s] 29)).appended (hW4.alloc _) hgrow hS
          have g9 := grownBy_app (grownBy_alloc g5 (.cells #[.int .i64 n, .string s] 29)) (hW4.alloc _) hgrow (Nat.le_refl _)
          go_roundw
          case rel => exact ⟨k - 1, l ++ [(n, s)], by go_num, by omega, by simp; omega, HK9.out, by rw [canCells_append]; simpa [canCells] using hown9, hD9, g9⟩
          case measure => simp [intOf]; omega
      · have hW3 := HW3.out
        go_wp2_with (at_builtin; refine wpList_append_own _ rfl (.tmp 21) (.tmp 23) 23 rfl u.heap.size 29 i0 (.agg #[.int .i64 0, .string ByteArray.empty]) 2 24 Try.underlying23 hi hz0 hz1 hz2 rfl (by decide) _ l.length (canCells l) rfl (hW3.alloc _) ⟨w3.heap.size, 0, none⟩ 1 1 [.int .i64 n, .string s] rfl rfl (cells_first (heap_alloc_new w3 _)) (two_one n s) (by unfold maxLen; omega) (by omega) (by have := g3.size; simp; omega) ?_; intro v' w9 hown9 hgrow _)
        have hD9 := (hD3.alloc (.cells #[.int .i64 n, .string s] 29)).appended (hW3.alloc _) hgrow hS
        have g9 := grownBy_app (grownBy_alloc g3 (.cells #[.int .i64 n, .string s] 29)) (hW3.alloc _) hgrow (Nat.le_refl _)
        go_roundw
        case rel => exact ⟨k - 1, l ++ [(n, s)], by go_num, by omega, by simp; omega, HK9.out, by rw [canCells_append]; simpa [canCells] using hown9, hD9, g9⟩
        case measure => simp [intOf]; omega
    · go_wp2
      go_ret
      exact ⟨_, l, rfl, HW.out, HK.out, by omega, hD, hg⟩
theorem cans_next (h : Dr w S a len cap zs u) : Calls Try.prog 35 #[.pointer (some ⟨S, 0, none⟩)] u (NextCans w S a len cap zs u) :=
  (cans_next_own h).mono fun _ _ ⟨v, l, he, ho, hok, hl, hD, hg⟩ => by
    obtain ⟨a', cap', hv, hin⟩ := CansIn.of_row ho
    exact ⟨a', cap', l, by rw [← hv]; exact he, hin, hok, hl, hD, hg⟩
end
end Go.Proofs.Ytmfnbbjhaolhgaa
