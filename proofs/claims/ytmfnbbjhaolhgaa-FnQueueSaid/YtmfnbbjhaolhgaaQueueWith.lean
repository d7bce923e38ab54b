/- What waits and others behind it, or without one: the program's methods with and without. Nothing that was there is written. -/
import Derived.Test.YtmfnbbjhaolhgaaConcat
import Derived.Test.YtmfnbbjhaolhgaaQueueRight
import Derived.Deep.RegionHeld3
namespace Go.Proofs.Ytmfnbbjhaolhgaa
open Go.RowKit Go.Joins
set_option linter.unusedVariables false
set_option maxHeartbeats 1000000 in
theorem with_any (a a' : Option Addr) (c c' : Nat) (l l' : List (Int × ByteArray)) (w : World) (h : CansIn w a l) (h' : CansIn w a' l') (hlen : l.length + l'.length ≤ 1048576) :
    Calls Try.prog 39 #[.agg #[.slice a l.length c], .slice a' l'.length c'] w fun e w' => ∃ a2 c2, e = .returned (.agg #[.slice a2 (l ++ l').length c2]) ∧ (l ++ l').length ≤ c2 ∧ NewIn w.heap.size w'.heap.size w' a2 (l ++ l') ∧ Below w.heap.size w w' := by
  have HC := Lib.hid h
  have HC' := Lib.hid h'
  have HX := fun b W hb h0 => Lib.hid (concat_any b 0 2 [l, l'] W hb h0 (by simpa using hlen) (by simp))
  have HL := Lib.hid (show [l, l'].flatten = l ++ l' by simp)
  have HB := Lib.hid (fun o o' : Obj => ((Below.refl w.heap.size w).alloc (Nat.le_refl _) o).alloc (by simp) o')
  clear h h'
  go_enter Try.func39, Try.ntmps39
  go_wp2_with fail
  have hz : 2 < 3 := by decide
  refine (HX _ _ (by simp) (fun j l0 hj => ?_)).out.mono ?_
  · match j, hj with
    | 0, hj =>
      obtain rfl : l = l0 := by simpa using hj
      exact ⟨a, c, by simp [go_sem], HC.out.kept ((HB.out _ _).alloc (by simp; omega) _)⟩
    | 1, hj =>
      obtain rfl : l' = l0 := by simpa using hj
      exact ⟨a', c', by simp [go_sem], HC'.out.kept ((HB.out _ _).alloc (by simp; omega) _)⟩
    | (j + 2), hj => simp at hj
  rintro e w4 ⟨v, rfl, hown, h4⟩
  rw [HL.out] at hown
  obtain ⟨a2, c2, rfl, hle, hnew⟩ := NewIn.of_owns hown
  obtain ⟨c4, f4⟩ := bcell h4
  have z4 : w.heap.size + 1 < w4.heap.size := by have := h4.size; simp at this; omega
  have HN := Lib.hid hnew
  have HE := Lib.hid hle
  clear hown hnew hle
  go_wp2
  refine bodyPost_ret (v := .agg #[.slice a2 (l ++ l').length c2]) (by simp [results, Try.results39, go_sem, c4]) rfl
    ⟨a2, c2, rfl, HE.out, ?_, ((((HB.out _ _).alloc (by simp; omega) _).trans (h4.mono (by simp; omega)))).setCell (by simp) _⟩
  refine NewIn.wide (lo := w.heap.size + 3) (hi := w4.heap.size) ?_ (by omega) (by simp)
  refine NewIn.out (lo' := w.heap.size + 1) (hi' := w.heap.size + 2) (by simpa using HN.out) ((Out.refl _ _ _).setCell (by simp) (by simp) _) (.inr (by omega))

/-- 's[:k]' and 's[k:]' of a row of Cans. -/
theorem slice_head {P : Program} (w : World) (t e : TypeId) (ht : P.underlying t = some (.slice e)) (hs : ∀ W : World, (sizeOf e).run P W = .ok 2 W) (b o n c k : Nat) (hk : k ≤ c) :
    (Instr.sliceAt t (.slice (some ⟨b, o, none⟩) n c) none (some (.int .i64 (k : Int))) none).run P w = .ok (.slice (some ⟨b, o, none⟩) k c) w := by
  have he : P.elem t = e := by simp [Program.elem, ht]
  rw [run_sliceAt_slice w t _ _ _ _ (by rw [he]; exact ht), run_slice_h w t _ _ _ (by rw [he]; exact ht) .i64 (k : Int) (by omega) (by omega), he, hs w]
  simp only [Result.andThen, sliced, Int.toNat_natCast, Nat.sub_zero, Nat.zero_mul]
  split <;> simp [Addr.add]
theorem slice_tail {P : Program} (w : World) (t e : TypeId) (ht : P.underlying t = some (.slice e)) (hs : ∀ W : World, (sizeOf e).run P W = .ok 2 W) (a : Option Addr) (n c k : Nat) (hk : k ≤ n) :
    (Instr.sliceAt t (.slice a n c) (some (.int .i64 (k : Int))) none none).run P w = .ok (.slice (if c = k then a else a.map (·.add (k * 2))) (n - k) (c - k)) w := by
  have he : P.elem t = e := by simp [Program.elem, ht]
  rw [run_sliceAt_slice w t _ _ _ _ (by rw [he]; exact ht), run_slice_l w t _ _ _ (by rw [he]; exact ht) .i64 (k : Int) (by omega) (by omega), he, hs w]
  simp only [Result.andThen, sliced, Int.toNat_natCast]
theorem CansIn.take {w : World} {a : Option Addr} {l : List (Int × ByteArray)} (h : CansIn w a l) (k : Nat) : CansIn w a (l.take k) := by
  rcases h with rfl | ⟨b, o, rfl, hlt, hc⟩
  · exact .inl (by simp)
  · refine .inr ⟨b, o, rfl, hlt, fun i x hx => ?_⟩
    rw [List.getElem?_take] at hx
    split at hx
    · exact hc i x hx
    · cases hx
theorem CansIn.drop {w : World} {a : Option Addr} {l : List (Int × ByteArray)} (h : CansIn w a l) (k c : Nat) (hc : l.length ≤ c) : CansIn w (if c = k then a else a.map (·.add (k * 2))) (l.drop k) := by
  by_cases hk : l.length ≤ k
  · exact .inl (List.drop_of_length_le hk)
  rw [if_neg (by omega)]
  rcases h with rfl | ⟨b, o, rfl, hlt, hc⟩
  · exact .inl (by simp)
  · have e : (⟨b, o, none⟩ : Addr).add (k * 2) = ⟨b, o + k * 2, none⟩ := by unfold Addr.add; split <;> simp_all
    refine .inr ⟨b, o + k * 2, by simp [e], hlt, fun i x hx => ?_⟩
    rw [List.getElem?_drop] at hx
    have := hc _ _ hx
    rw [show o + k * 2 + i * 2 = o + (k + i) * 2 by omega]
    exact this
theorem Queue.sizeOf (W : World) : (sizeOf 29).run Try.prog W = .ok 2 W := by kernel_rfl

theorem rows_two {W : World} {b o : Nat} {l1 l2 : List (Int × ByteArray)} {a1 a2 : Option Addr} {c1 c2 : Nat} (e1 : W.cell? ⟨b, o, none⟩ = some (.slice a1 l1.length c1)) (e2 : W.cell? ⟨b, o + 1, none⟩ = some (.slice a2 l2.length c2)) (h1 : CansIn W a1 l1) (h2 : CansIn W a2 l2) :
    ∀ (j : Nat) l, [l1, l2][j]? = some l → ∃ a c, W.cell? ⟨b, o + j, none⟩ = some (.slice a l.length c) ∧ CansIn W a l := by
  intro j l hj
  match j, hj with
  | 0, hj =>
    obtain rfl : l1 = l := by simpa using hj
    exact ⟨a1, c1, e1, h1⟩
  | 1, hj =>
    obtain rfl : l2 = l := by simpa using hj
    exact ⟨a2, c2, e2, h2⟩
  | (j + 2), hj => simp at hj

set_option maxRecDepth 100000 in
set_option maxHeartbeats 4000000 in
theorem without_any (b o c k : Nat) (l : List (Int × ByteArray)) (w : World) (h : CansIn w (some ⟨b, o, none⟩) l) (hk : k < l.length) (hc : l.length ≤ c) (hlen : l.length ≤ 1048576) :
    Calls Try.prog 43 #[.agg #[.slice (some ⟨b, o, none⟩) l.length c], .int .i64 (k : Int)] w fun e w' => ∃ a2 c2, e = .returned (.agg #[.slice a2 (l.take k ++ l.drop (k + 1)).length c2]) ∧ (l.take k ++ l.drop (k + 1)).length ≤ c2 ∧ NewIn w.heap.size w'.heap.size w' a2 (l.take k ++ l.drop (k + 1)) ∧ Below w.heap.size w w' := by
  have HC := Lib.hid h
  have HX := fun b W (l1 l2 : List (Int × ByteArray)) hb h0 hl => Lib.hid (concat_any b 0 2 [l1, l2] W hb h0 hl (by simp))
  have HL := Lib.hid (show [l.take k, l.drop (k + 1)].flatten = l.take k ++ l.drop (k + 1) by simp)
  have HB := Lib.hid (fun o o' : Obj => ((Below.refl w.heap.size w).alloc (Nat.le_refl _) o).alloc (by simp) o')
  have h1 := fun W => slice_head (P := Try.prog) W 23 29 Try.underlying23 Queue.sizeOf b o l.length c k (by omega)
  have h2 := fun W => slice_tail (P := Try.prog) W 23 29 Try.underlying23 Queue.sizeOf (some ⟨b, o, none⟩) l.length c (k + 1) (by omega)
  have hT := h.take k
  have hD := h.drop (k + 1) c hc
  have ht : (l.take k).length = k := by rw [List.length_take]; omega
  have hd : (l.drop (k + 1)).length = l.length - (k + 1) := by rw [List.length_drop]
  have hw1 : IntKind.i64.wrap ((k : Int) + 1) = ((k + 1 : Nat) : Int) := by rw [IntWalk.i64_in _ (by omega)]; omega
  have hk1 : k + 1 ≤ l.length := hk
  have hsum : (l.take k).length + (l.drop (k + 1)).length ≤ 1048576 := by omega
  generalize l.take k = l1 at *
  generalize l.drop (k + 1) = l2 at *
  generalize (if c = k + 1 then (some ⟨b, o, none⟩ : Option Addr) else (some (⟨b, o, none⟩ : Addr)).map (·.add ((k + 1) * 2))) = a2 at *
  generalize c - (k + 1) = c2 at *
  rw [← hd] at h2
  obtain ⟨q, hq⟩ : ∃ q, k + 1 = q := ⟨_, rfl⟩
  rw [hq] at h2 hw1 hk1
  have hq0 : (0 : Int) ≤ (q : Int) := by omega
  have hq1 : (q : Int) ≤ (l.length : Int) := by omega
  have hk2 : k ≤ c := by omega
  clear hq
  obtain ⟨N, hN⟩ : ∃ N, l.length = N := ⟨_, rfl⟩
  rw [hN] at h1 h2 hk hc hlen hk1 hq1 ⊢
  rw [← ht] at h1
  have HKL := Lib.hid ht
  rw [ht] at h1
  clear hd hN h ht
  have HT := Lib.hid hT
  have HD := Lib.hid hD
  clear hT hD hc HC
  go_enter Try.func43, Try.ntmps43
  go_wp2_with fail
  have d0 : ((w.alloc (.cells #[.slice (some ⟨b, o, none⟩) N c] 63)).alloc (.cells #[.slice none 0 0] 63)).cell? ⟨w.heap.size, 0, none⟩ = some (.slice (some ⟨b, o, none⟩) N c) := by simp [go_sem]
  have d1 : ((w.alloc (.cells #[.slice (some ⟨b, o, none⟩) N c] 63)).alloc (.cells #[.slice none 0 0] 63)).cell? ⟨w.heap.size + 1, 0, none⟩ = some (.slice none 0 0) := by simp [go_sem]
  have d2 : ((w.alloc (.cells #[.slice (some ⟨b, o, none⟩) N c] 63)).alloc (.cells #[.slice none 0 0] 63)).frozen? ⟨w.heap.size + 1, 0, none⟩ = false := by simp [go_sem]
  have b0 := HB.out (.cells #[.slice (some ⟨b, o, none⟩) N c] 63) (.cells #[.slice none 0 0] 63)
  have hz0 : ((w.alloc (.cells #[.slice (some ⟨b, o, none⟩) N c] 63)).alloc (.cells #[.slice none 0 0] 63)).heap.size = w.heap.size + 2 := by simp
  generalize ((w.alloc (.cells #[.slice (some ⟨b, o, none⟩) N c] 63)).alloc (.cells #[.slice none 0 0] 63)) = W0 at *
  have hz1 : w.heap.size + 1 < W0.heap.size := by omega
  have hz2 : w.heap.size < W0.heap.size := by omega
  have HCALL := HX W0.heap.size (W0.alloc (.cells #[.slice (some ⟨b, o, none⟩) k c, .slice a2 l2.length c2] 23)).drew l1 l2 (by simp)
    (rows_two (c1 := c) (c2 := c2) (by rw [HKL.out]; simp [go_sem]) (by simp [go_sem]) (HT.out.kept (b0.alloc (by omega) _).drew) (HD.out.kept (b0.alloc (by omega) _).drew)) (by simpa using hsum)
  have HZ0 := Lib.hid hz0
  clear hz0
  go_region_held3 (fun W => W.cell? ⟨w.heap.size, 0, none⟩ = some (.slice (some ⟨b, o, none⟩) N c) ∧ Below (w.heap.size + 1) W0 W)
    (first | assumption | exact oneB_first d0 | exact oneB_alloc (Nat.lt_succ_self w.heap.size) (by omega) (by assumption) _ | exact oneB_alloc_drew (Nat.lt_succ_self w.heap.size) (by omega) (by assumption) _ | exact oneB_call (Nat.lt_succ_self w.heap.size) (by omega) (by assumption) (by assumption) | exact oneB_set (Nat.lt_succ_self w.heap.size) (Nat.le_refl _) (by assumption) _)
    ((go_at_call 63; refine HCALL.out.mono ?_; rintro e w4 ⟨v, rfl, hown, h4⟩; rw [HL.out] at hown; obtain ⟨a3, c3, rfl, hle, hnew⟩ := NewIn.of_owns hown; have e4 := (h4.cell (p := ⟨w.heap.size + 1, 0, none⟩) (by simp; omega)).trans ((Below.cell (B := W0.heap.size) (w := W0) ((Below.refl _ _).alloc (Nat.le_refl _) _).drew (p := ⟨w.heap.size + 1, 0, none⟩) hz1).trans d1); have f4 := (h4.frozen (p := ⟨w.heap.size + 1, 0, none⟩) (by simp; omega)).trans ((Below.frozen (B := W0.heap.size) (w := W0) ((Below.refl _ _).alloc (Nat.le_refl _) _).drew (p := ⟨w.heap.size + 1, 0, none⟩) hz1).trans d2); have HN := Lib.hid hnew; have HE := Lib.hid hle; clear hown hnew hle))
  go_wp2
  rw [← List.length_append]
  refine bodyPost_ret (v := .agg #[.slice a3 (l1 ++ l2).length c3]) (by simp [results, Try.results43, go_sem, e4]) rfl
    ⟨a3, c3, rfl, HE.out, ?_, ((b0.trans ((((Below.refl _ _).alloc (Nat.le_refl _) _).drew).mono (by omega))).trans (h4.mono (by simp; omega))).setCell (by simp) _⟩
  refine NewIn.wide (lo := W0.heap.size + 1) (hi := w4.heap.size) ?_ (by omega) (by simp)
  exact NewIn.out (lo' := w.heap.size + 1) (hi' := w.heap.size + 2) (by simpa using HN.out) ((Out.refl _ _ _).setCell (by simp) (by simp) _) (.inr (by omega))
end Go.Proofs.Ytmfnbbjhaolhgaa
