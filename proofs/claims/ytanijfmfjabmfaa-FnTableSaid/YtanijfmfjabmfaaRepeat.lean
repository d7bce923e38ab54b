/- slices.Repeat of one byte, eight times. Nothing that was there is written. -/
import Derived.Test.YtanijfmfjabmfaaOwn
import Derived.Test.YtanijfmfjabmfaaInsert
import Derived.Test.YtanijfmfjabmfaaJoined
namespace Go.Proofs.Ytanijfmfjabmfaa
open Go.RowKit
set_option linter.unusedVariables false

theorem Out.undrew {lo hi : Nat} {w w' : World} (h : Out lo hi w.drew w') : Out lo hi w w' := ⟨h.os, h.tape, h.output, h.size, h.block⟩
set_option maxRecDepth 100000 in
set_option maxHeartbeats 2000000 in
theorem mul18_any (w : World) :
    Calls Try.prog 171 #[.int .u64 1, .int .u64 8] w fun e w' => e = .returned (.tuple #[.int .u64 0, .int .u64 8]) ∧ w = w' := by
  go_enter Try.func171, Try.ntmps171
  go_wp2
  go_ret2
  exact ⟨rfl, rfl⟩
/-- The first n of eight cells hold it. -/
def Eight (v : Value) (n : Nat) (c : List Value) : Prop := c.length = 8 ∧ c.take n = List.replicate n v
theorem Eight.step {v : Value} {n : Nat} {c : List Value} (h : Eight v n c) (hn : n + n ≤ 8) : Eight v (n + n) (splice c n (List.replicate n v)) := by
  refine ⟨by rw [length_splice _ _ _ (by rw [List.length_replicate, h.1]; exact hn)]; exact h.1, ?_⟩
  unfold splice
  rw [h.2, ← List.append_assoc, List.take_append_of_le_length (by simp)]
  rw [List.replicate_append_replicate, List.take_of_length_le (by simp)]
theorem Eight.first {v : Value} {c : List Value} (h : c.length = 8) : Eight v 1 (splice c 0 [v]) :=
  ⟨by rw [length_splice _ _ _ (by rw [h]; show 0 + 1 ≤ 8; decide)]; exact h, rfl⟩
theorem Eight.all {v : Value} {c : List Value} (h : Eight v 8 c) : c = List.replicate 8 v := by
  have h2 := h.2
  rwa [List.take_of_length_le (by rw [h.1]; exact Nat.le_refl _)] at h2
theorem Eight.cells {v : Value} {n : Nat} {c : List Value} (h : Eight v n c) {w : World} {g : Nat} {t : TypeId} (hg : w.heap[g]? = some (.cells c.toArray t (0, 0))) :
    ∀ j u, (List.replicate n v)[j]? = some u → w.cell? ((⟨g, 0, none⟩ : Addr).add j) = some u := by
  intro j u hj
  have e : (⟨g, 0, none⟩ : Addr).add j = ⟨g, j, none⟩ := by unfold Addr.add; split <;> simp_all
  rw [e, cell_of_row w g j c.toArray t (0, 0) hg]
  rw [← h.2, List.getElem?_take] at hj
  split at hj
  · simpa using hj
  · cases hj
theorem own8 {w : World} {base : Nat} {e : TypeId} {g : Nat} {xs : List Value} (h : w.ownsRow base e 1 (.slice (some ⟨g, 0, none⟩) 8 8) 8 xs) : ∃ c : List Value, w.heap[g]? = some (.cells c.toArray e (0, 0)) ∧ c.length = 8 := by
  rcases h.2 with ⟨h', _⟩ | ⟨g', cap', cur, h', _, hg, _, _, hc, _⟩
  · simp at h'
  · simp only [Value.slice.injEq, Option.some.injEq, Addr.mk.injEq, and_true, true_and] at h'
    obtain ⟨rfl, rfl⟩ := h'
    exact ⟨cur.toList, hg, by simpa using hc⟩
theorem one_cells {w : World} {b : Nat} {v : Value} (h : w.cell? ⟨b, 0, none⟩ = some v) : ∀ j u, [v][j]? = some u → w.cell? ((⟨b, 0, none⟩ : Addr).add j) = some u := by
  intro j u hj
  rcases j with _ | j
  · simp at hj
    subst hj
    exact h
  · simp at hj
theorem Repeat.info8 : (Try.prog.info? 5).map (fun i => (i.zero, i.size, i.bytes)) = some (some (.int .u8 0), 1, 1) := by kernel_rfl
theorem Repeat.one8 : (Try.prog.info? 5).map (·.size) = some 1 := by kernel_rfl
set_option maxRecDepth 100000 in
set_option maxHeartbeats 4000000 in
theorem repeat8_any (b : Nat) (w : World) (x : Int) (h : w.cell? ⟨b, 0, none⟩ = some (.int .u8 x)) (hlt : b < w.heap.size) :
    Calls Try.prog 119 #[.slice (some ⟨b, 0, none⟩) 1 1, .int .i64 8] w fun e w' => ∃ G, e = .returned (.slice (some ⟨G, 0, none⟩) 8 8) ∧ w.heap.size ≤ G ∧ w'.heap[G]? = some (.cells (List.replicate 8 (Value.int .u8 x)).toArray 5 (0, 0)) ∧ Below w.heap.size w w' := by
  obtain ⟨i0, hi, hz0, hz1, hz2⟩ := info_parts Repeat.info8
  have HC := Lib.hid h
  clear h
  go_enter Try.func119, Try.ntmps119
  go_wp2_with fail
  refine (mul18_any _).mono ?_
  rintro e w' ⟨rfl, rfl⟩
  go_wp2_with (first
    | (at_make; refine wpList_make_full _ rfl (.tmp 29) (.tmp 29) 22 rfl w.heap.size 5 i0 (.int .u8 0) 1 Try.underlying22 hi hz0 hz1 .i64 .i64 8 8 8 (by rfl) (by rfl) (by omega) (by omega) (by rw [hz2]; omega) (by unfold maxLen; omega) (Nat.le_refl _) ?_; intro w1 hown hgrow; obtain ⟨cur, hcg, hcl⟩ := own8 hown; have HG1 := Lib.hid hcg; have HL := Lib.hid hcl; have HB := Lib.hid ((Below.refl w.heap.size w).grown hgrow (Nat.le_refl _) (fun _ h => by cases h)); have HC1 := Lib.hid ((HB.out.cell (p := ⟨b, 0, none⟩) hlt).trans HC.out); clear hown hgrow hcg hcl)
    | (refine wpList_copy_h rfl (.tmp 31) (.tmp 32) 22 22 rfl 5 Try.underlying22 Repeat.one8 (some ⟨w.heap.size, 0, none⟩) (some ⟨b, 0, none⟩) 8 8 1 1 rfl rfl w.heap.size 0 cur 5 HG1.out [.int .u8 x] rfl (fun _ => ⟨rfl, ⟨b, 0, none⟩, rfl, one_cells HC1.out⟩) (by rw [HL.out]; show 0 + 1 ≤ 8; decide) (by simp [Value.oneCell']) ?_; intro w2 hg ho; have HG2 := Lib.hid hg; have HO2 := Lib.hid ho; have HE2 := Lib.hid (Eight.first (v := .int .u8 x) HL.out); clear hg ho))
  refine wp_loop_rounds 4 ?_
  rw [rounds_succ]
  go_wp2_with fail
  go_region_law (refine step_copy_h rfl (.tmp 41) (.tmp 44) 22 22 rfl 5 Try.underlying22 Repeat.one8 (some ⟨w.heap.size, 1, none⟩) (some ⟨w.heap.size, 0, none⟩) 7 7 1 8 (by simp [Act.eval, Act.put]) (by simp [Act.eval, Act.put]) w.heap.size 1 _ 5 HG2.out (List.replicate 1 (Value.int .u8 x)) rfl (fun _ => ⟨rfl, ⟨w.heap.size, 0, none⟩, rfl, HE2.out.cells HG2.out⟩) (by rw [HE2.out.1, List.length_replicate]; decide) (by simp [Value.oneCell']) ?_; intro w3 hg ho; have HG3 := Lib.hid hg; have HO3 := Lib.hid ho; have HE3 := Lib.hid (HE2.out.step (by decide)); clear hg ho)
  go_wp2_with fail
  rw [rounds_succ]
  go_wp2_with fail
  go_region_law (refine step_copy_h rfl (.tmp 41) (.tmp 44) 22 22 rfl 5 Try.underlying22 Repeat.one8 (some ⟨w.heap.size, 2, none⟩) (some ⟨w.heap.size, 0, none⟩) 6 6 2 8 (by simp [Act.eval, Act.put]) (by simp [Act.eval, Act.put]) w.heap.size 2 _ 5 HG3.out (List.replicate 2 (Value.int .u8 x)) rfl (fun _ => ⟨rfl, ⟨w.heap.size, 0, none⟩, rfl, HE3.out.cells HG3.out⟩) (by rw [HE3.out.1, List.length_replicate]; decide) (by simp [Value.oneCell']) ?_; intro w4 hg ho; have HG4 := Lib.hid hg; have HO4 := Lib.hid ho; have HE4 := Lib.hid (HE3.out.step (by decide)); clear hg ho)
  go_wp2_with fail
  rw [rounds_succ]
  go_wp2_with fail
  go_region_law (refine step_copy_h rfl (.tmp 41) (.tmp 44) 22 22 rfl 5 Try.underlying22 Repeat.one8 (some ⟨w.heap.size, 4, none⟩) (some ⟨w.heap.size, 0, none⟩) 4 4 4 8 (by simp [Act.eval, Act.put]) (by simp [Act.eval, Act.put]) w.heap.size 4 _ 5 HG4.out (List.replicate 4 (Value.int .u8 x)) rfl (fun _ => ⟨rfl, ⟨w.heap.size, 0, none⟩, rfl, HE4.out.cells HG4.out⟩) (by rw [HE4.out.1, List.length_replicate]; decide) (by simp [Value.oneCell']) ?_; intro w5 hg ho; have HG5 := Lib.hid hg; have HO5 := Lib.hid ho; have HE5 := Lib.hid (HE4.out.step (by decide)); clear hg ho)
  go_wp2_with fail
  rw [rounds_succ]
  go_wp2_with fail
  go_ret
  refine ⟨_, rfl, Nat.le_refl _, ?_, ?_⟩
  · have h := HG5.out
    rwa [HE5.out.all] at h
  · have h1 : w.heap.size < w1.heap.size := (Array.getElem?_eq_some_iff.1 HG1.out).1
    exact ((((HO2.out.trans HO3.out.undrew).trans HO4.out.undrew).trans HO5.out.undrew).below HB.out (Nat.le_refl _) (Nat.le_of_lt h1))
end Go.Proofs.Ytanijfmfjabmfaa
