/- slices.Repeat of one byte, so many times; a text filled up with bytes 255 from none. Nothing that was there is written. -/
import Derived.Test.YtanijfmfjabmfaaRepeat
import Derived.Test.YtanijfmfjabmfaaFilled
namespace Go.Proofs.Ytanijfmfjabmfaa
open Go.RowKit
set_option linter.unusedVariables false

/-- The first m of N cells hold it. -/
def FillN (N : Nat) (v : Value) (m : Nat) (c : List Value) : Prop := c.length = N ∧ c.take m = List.replicate m v
theorem FillN.step {N : Nat} {v : Value} {m j : Nat} {c : List Value} (h : FillN N v m c) (hn : m + j ≤ N) : FillN N v (m + j) (splice c m (List.replicate j v)) := by
  refine ⟨by rw [length_splice _ _ _ (by rw [List.length_replicate, h.1]; exact hn)]; exact h.1, ?_⟩
  unfold splice
  rw [h.2, ← List.append_assoc, List.take_append_of_le_length (by simp)]
  rw [List.replicate_append_replicate, List.take_of_length_le (by simp)]
theorem FillN.first {N : Nat} {v : Value} {c : List Value} (hN : 1 ≤ N) (h : c.length = N) : FillN N v 1 (splice c 0 [v]) :=
  ⟨by rw [length_splice _ _ _ (by rw [h]; show 0 + 1 ≤ N; omega)]; exact h, rfl⟩
theorem FillN.all {N : Nat} {v : Value} {c : List Value} (h : FillN N v N c) : c = List.replicate N v := by
  have h2 := h.2
  rwa [List.take_of_length_le (by rw [h.1]; exact Nat.le_refl _)] at h2
theorem FillN.cells {N : Nat} {v : Value} {m : Nat} {c : List Value} (h : FillN N v m c) {w : World} {g : Nat} {t : TypeId} (hg : w.heap[g]? = some (.cells c.toArray t (0, 0))) {j : Nat} (hj : j ≤ m) :
    ∀ i u, (List.replicate j v)[i]? = some u → w.cell? ((⟨g, 0, none⟩ : Addr).add i) = some u := by
  intro i u hi
  have hij : i < j := by
    have := (List.getElem?_eq_some_iff.1 hi).1
    simpa using this
  have e : (⟨g, 0, none⟩ : Addr).add i = ⟨g, i, none⟩ := by unfold Addr.add; split <;> simp_all
  rw [e, cell_of_row w g i c.toArray t (0, 0) hg]
  have h2 : (c.take m)[i]? = (List.replicate m v)[i]? := by rw [h.2]
  rw [List.getElem?_take, if_pos (by omega)] at h2
  rw [List.getElem?_replicate, if_pos (by omega)] at h2
  rw [List.getElem?_replicate, if_pos hij] at hi
  rw [← hi, ← h2]
  simp
theorem ownN {w : World} {base : Nat} {e : TypeId} {g n : Nat} {xs : List Value} (h : w.ownsRow base e 1 (.slice (some ⟨g, 0, none⟩) n n) n xs) : ∃ c : List Value, w.heap[g]? = some (.cells c.toArray e (0, 0)) ∧ c.length = n := by
  rcases h.2 with ⟨h', _⟩ | ⟨g', cap', cur, h', _, hg, _, _, hc, _⟩
  · simp at h'
  · simp only [Value.slice.injEq, Option.some.injEq, Addr.mk.injEq, and_true, true_and] at h'
    obtain ⟨rfl, rfl⟩ := h'
    exact ⟨cur.toList, hg, by simpa using hc⟩
set_option maxRecDepth 100000 in
set_option maxHeartbeats 2000000 in
theorem mul14_any (w : World) :
    Calls Try.prog 171 #[.int .u64 1, .int .u64 14] w fun e w' => e = .returned (.tuple #[.int .u64 0, .int .u64 14]) ∧ w = w' := by
  go_enter Try.func171, Try.ntmps171
  go_wp2
  go_ret2
  exact ⟨rfl, rfl⟩
theorem mulN_any (N : Nat) (hN : N = 8 ∨ N = 14) (w : World) :
    Calls Try.prog 171 #[.int .u64 1, .int .u64 (N : Int)] w fun e w' => e = .returned (.tuple #[.int .u64 0, .int .u64 (N : Int)]) ∧ w = w' := by
  rcases hN with rfl | rfl
  · exact mul18_any w
  · exact mul14_any w
set_option maxRecDepth 100000 in
set_option maxHeartbeats 4000000 in
theorem repeatN_any (N : Nat) (hN : N = 8 ∨ N = 14) (b : Nat) (w : World) (x : Int) (h : w.cell? ⟨b, 0, none⟩ = some (.int .u8 x)) (hlt : b < w.heap.size) :
    Calls Try.prog 119 #[.slice (some ⟨b, 0, none⟩) 1 1, .int .i64 (N : Int)] w fun e w' => ∃ G, e = .returned (.slice (some ⟨G, 0, none⟩) N N) ∧ w.heap.size ≤ G ∧ w'.heap[G]? = some (.cells (List.replicate N (Value.int .u8 x)).toArray 5 (0, 0)) ∧ Below w.heap.size w w' := by
  obtain ⟨i0, hi, hz0, hz1, hz2⟩ := info_parts Repeat.info8
  have HC := Lib.hid h
  have hN1 : 1 ≤ N ∧ N ≤ 14 := by omega
  have w1_ : IntKind.u64.wrap (N : Int) = (N : Int) := by rcases hN with rfl | rfl <;> rfl
  have w2_ : IntKind.i64.wrap (N : Int) = (N : Int) := by rcases hN with rfl | rfl <;> rfl
  have HMh := fun w => Lib.hid (mulN_any N hN w)
  have n1 : decide ((N : Int) < 0) = false := decide_eq_false (by omega)
  have n2 : decide ((9223372036854775807 : Int) < (N : Int)) = false := decide_eq_false (by omega)
  clear h hN
  go_enter Try.func119, Try.ntmps119
  go_wp2_with fail
  refine (HMh _).out.mono ?_
  rintro e w' ⟨rfl, rfl⟩
  go_wp2_with (first
    | (at_make; refine wpList_make_full _ rfl (.tmp 29) (.tmp 29) 22 rfl w.heap.size 5 i0 (.int .u8 0) 1 Try.underlying22 hi hz0 hz1 .i64 .i64 (N : Int) (N : Int) N (by rfl) (by rfl) (by omega) (by omega) (by rw [hz2]; omega) (by unfold maxLen; omega) (Nat.le_refl _) ?_; intro w1 hown hgrow; obtain ⟨cur, hcg, hcl⟩ := ownN hown; have HG1 := Lib.hid hcg; have HL := Lib.hid hcl; have HB := Lib.hid ((Below.refl w.heap.size w).grown hgrow (Nat.le_refl _) (fun _ h => by cases h)); have HC1 := Lib.hid ((HB.out.cell (p := ⟨b, 0, none⟩) hlt).trans HC.out); clear hown hgrow hcg hcl)
    | (refine wpList_copy_h rfl (.tmp 31) (.tmp 32) 22 22 rfl 5 Try.underlying22 Repeat.one8 (some ⟨w.heap.size, 0, none⟩) (some ⟨b, 0, none⟩) N N 1 1 rfl rfl w.heap.size 0 cur 5 HG1.out [.int .u8 x] (by show 1 = min 1 N; omega) (fun _ => ⟨rfl, ⟨b, 0, none⟩, rfl, one_cells HC1.out⟩) (by rw [HL.out]; show 0 + 1 ≤ N; omega) (by simp [Value.oneCell']) ?_; intro w2 hg ho; have HG2 := Lib.hid hg; have HO2 := Lib.hid ho; have HE2 := Lib.hid (FillN.first (v := .int .u8 x) hN1.1 HL.out); clear hg ho))
  have h1 : w.heap.size < w1.heap.size := (Array.getElem?_eq_some_iff.1 HG1.out).1
  go_loopw [8] (fun n wr => ∃ (m : Nat) (c : List Value), n = .int .i64 (m : Int) ∧ 1 ≤ m ∧ m ≤ N ∧ FillN N (.int .u8 x) m c ∧ wr.heap[w.heap.size]? = some (.cells c.toArray 5 (0, 0)) ∧ Below w.heap.size w wr) (fun n _ => N - (intOf n).toNat)
  case atStart => exact ⟨1, _, rfl, by omega, by omega, HE2.out, HG2.out, HO2.out.below HB.out (Nat.le_refl _) (Nat.le_of_lt h1)⟩
  case round =>
    obtain ⟨m, c, rfl, hm1, hmN, hf, hg, hb⟩ := hrel
    have HF := Lib.hid hf
    have HG := Lib.hid hg
    have lG : w.heap.size < wr.heap.size := (Array.getElem?_eq_some_iff.1 hg).1
    clear hf hg
    by_cases hlt2 : m < N
    · have q1 : decide ((m : Int) < (N : Int)) = true := decide_eq_true (by omega)
      have q2 : (0 : Int) ≤ (m : Int) := by omega
      have q3 : (m : Int) ≤ (N : Int) := by omega
      have q4 : ¬ N = m := by omega
      obtain ⟨j, hj⟩ : ∃ j, Nat.min m (N - m) = j := ⟨_, rfl⟩
      have hj1 : 1 ≤ j ∧ j ≤ m ∧ m + j ≤ N := by
        have : min m (N - m) = j := hj
        omega
      have w3_ : IntKind.i64.wrap ((m : Int) + (j : Int)) = ((m + j : Nat) : Int) := by rw [IntWalk.i64_in _ (by omega)]; omega
      go_wp2_with fail
      go_region_law (refine step_copy_h rfl (.tmp 41) (.tmp 44) 22 22 rfl 5 Try.underlying22 Repeat.one8 (some ⟨w.heap.size, m, none⟩) (some ⟨w.heap.size, 0, none⟩) (N - m) (N - m) m N (by simp [Act.eval, Act.put]) (by simp [Act.eval, Act.put]) w.heap.size m _ 5 HG.out (List.replicate j (Value.int .u8 x)) (by rw [List.length_replicate]; exact hj.symm) (fun _ => ⟨rfl, ⟨w.heap.size, 0, none⟩, rfl, HF.out.cells HG.out hj1.2.1⟩) (by rw [HF.out.1, List.length_replicate]; exact hj1.2.2) (by simp [Value.oneCell']) ?_; intro w3 hg ho; have HG3 := Lib.hid hg; have HO3 := Lib.hid ho; have HE3 := Lib.hid (HF.out.step hj1.2.2); clear hg ho)
      go_wp2_with fail
      simp only [Act.put, List.getElem_toArray, List.getElem_cons_succ, List.getElem_cons_zero, List.setIfInBounds_toArray, List.set_cons_succ, List.set_cons_zero]
      go_roundw
      case rel => exact ⟨m + j, splice c m (List.replicate j (.int .u8 x)), by first | rfl | go_num, by omega, by omega, HE3.out, HG3.out, HO3.out.undrew.below hb (Nat.le_refl _) (Nat.le_of_lt lG)⟩
      case measure => simp [intOf]; omega
    · obtain rfl : m = N := by omega
      have q1 : decide ((m : Int) < (m : Int)) = false := decide_eq_false (by omega)
      go_wp2_with fail
      go_ret
      refine ⟨_, rfl, Nat.le_refl _, ?_, hb⟩
      rw [← HF.out.all]
      exact HG.out
/-- Bytes 255 alone. -/
def fillL (N : Nat) : List UInt8 := List.replicate N 255
theorem fillL_cells (N : Nat) : bcells (fillL N) = List.replicate N (Value.int .u8 255) := by
  unfold bcells fillL
  rw [List.map_replicate]
  rfl
set_option maxRecDepth 100000 in
set_option maxHeartbeats 4000000 in
theorem l06FillE_any (N : Nat) (hN : N ≤ 100) (w : World) :
    Calls Try.prog 103 #[.string ByteArray.empty, .int .i64 (N : Int)] w fun e w' => e = .returned (.string ⟨(fillL N).toArray⟩) ∧ Below w.heap.size w w' := by
  obtain ⟨i0, hi, hz0, hz1, hz2⟩ := info_parts Repeat.info8
  have HI := Lib.hid hi
  clear hi
  go_enter Try.func103, Try.ntmps103
  go_wp2_with (refine wpList_bytes_buf rfl (.tmp 6) 9 22 5 rfl Try.underlying9 Try.underlying22 Try.underlying5 ByteArray.empty rfl ?_; intro v w1 hv hb; have HV := Lib.hid hv; have HB := Lib.hid hb; clear hv hb)
  go_loopw [5] (fun v wr => ∃ (k : Nat) (V : Value), V = v ∧ k ≤ N ∧ BufB wr w.heap.size V (fillL k) ∧ Below w.heap.size w wr) (fun v _ => match v with | .slice _ n _ => N - n | _ => 0)
  case atStart => exact ⟨0, _, rfl, by omega, HV.out, HB.out⟩
  case round =>
    obtain ⟨k, V, rfl, hk, hv, hb⟩ := hrel
    have HVk := Lib.hid hv
    obtain ⟨g, cap, rfl, hg⟩ : ∃ g cap, V = .slice (some ⟨g, 0, none⟩) k cap ∧ True := by
      obtain ⟨g, cap, h0, _⟩ := hv
      exact ⟨g, cap, by rw [h0]; simp [fillL], trivial⟩
    clear hv hg
    by_cases hlt : k < N
    · have hd : decide ((k : Int) < (N : Int)) = true := decide_eq_true (by omega)
      have hfl : (fillL k).length = k := by simp [fillL]
      go_wp2_with (at_builtin; refine wpList_append_buf rfl (.tmp 12) (.tmp 13) 22 rfl 5 i0 Try.underlying22 HI.out hz0 hz1 hz2 w.heap.size _ _ rfl (HVk.out.kept ((Below.refl _ _).alloc (Nat.le_refl _) _)) 255 ⟨wr.heap.size, 0, none⟩ 1 rfl (cell_new1 _ _ _) (by rw [hfl]; omega) (by have := hb.size; simp; omega) ?_; intro v' w2 hv2 ho2; have HV2 := Lib.hid hv2; have HO2 := Lib.hid ho2; clear hv2 ho2)
      go_roundw
      case rel => exact ⟨k + 1, _, rfl, by omega, by have h := HV2.out; unfold fillL at *; rw [List.replicate_succ']; exact h, HO2.out.below ((hb.alloc hb.size _)) (Nat.le_refl _) (by have := hb.size; simp; omega)⟩
      case measure =>
        obtain ⟨g', cap', h0, _⟩ := HV2.out
        subst h0
        simp [fillL]
        omega
    · obtain rfl : k = N := by omega
      have hd : decide ((k : Int) < (k : Int)) = false := decide_eq_false (by omega)
      have hcv := HVk.out.conv (P := Try.prog) 22 9 5 Try.underlying22 Try.underlying5 Try.underlying9
      go_wp2_with fail
      go_ret
      exact ⟨rfl, hb⟩
end Go.Proofs.Ytanijfmfjabmfaa
