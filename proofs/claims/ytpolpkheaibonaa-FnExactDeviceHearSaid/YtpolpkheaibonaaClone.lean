/- A copy of some numbers in new memory: slices.Clone. Nothing that was there is written. -/
import Derived.Test.YtpolpkheaibonaaNumsTo
import Derived.Lib.SliceRun
namespace Go.Proofs.Ytpolpkheaibonaa
open Go.RowKit Go.Joins
set_option linter.unusedVariables false

theorem owns_base {w : World} {base base' : Nat} {e : TypeId} {s : Nat} {v : Value} {n : Nat} {xs : List Value} (h : w.ownsRow base e s v n xs) (hb : base' ≤ base) : w.ownsRow base' e s v n xs := by
  obtain ⟨h1, h2⟩ := h
  refine ⟨h1, ?_⟩
  rcases h2 with h2 | ⟨g, cap, cur, hv, hg, r⟩
  · exact .inl h2
  · exact .inr ⟨g, cap, cur, hv, by omega, r⟩
/-- The numbers of a row of the call's own, as a slice. -/
theorem owns_nums {w : World} {base : Nat} {e : TypeId} {v : Value} {l : List Int} (h : w.ownsRow base e 1 v l.length (ncells l)) : ∃ a cap, v = .slice a l.length cap ∧ l.length ≤ cap ∧ NumsIn w a l := by
  obtain ⟨a, cap, rfl, hc, hn⟩ := NumsNew.of_owns h
  exact ⟨a, cap, rfl, hc, hn.nums⟩
set_option maxRecDepth 100000 in
set_option maxHeartbeats 2000000 in
theorem clone_any (a : Option Addr) (cap : Nat) (l : List Int) (w : World) (h : NumsIn w a l) (hlen : l.length ≤ 1048576) :
    Calls Try.prog 162 #[.slice a l.length cap] w fun e w' => ∃ v, e = .returned v ∧ w'.ownsRow w.heap.size 2 1 v l.length (ncells l) ∧ Below w.heap.size w w' := by
  obtain ⟨i0, hi, hz0, hz1, hz2⟩ := info_parts NumsTo.info
  obtain ⟨N, hN⟩ : ∃ N, l.length = N := ⟨_, rfl⟩
  have HNl := Lib.hid hN
  rw [hN] at hlen ⊢
  clear hN
  have HI := Lib.hid h
  clear h
  rcases a with _ | ⟨b, o, sp⟩
  · have hl : l = [] := by
      rcases HI.out with h | ⟨b, o', h', _⟩
      · exact h
      · cases h'
    obtain rfl : N = 0 := by rw [← HNl.out, hl]; rfl
    subst hl
    clear HI HNl
    have hq := fun W : World => Lib.run_eql_slice_nil (P := Try.prog) W 48 2 none 0 cap 0 0 Try.underlying48
    go_enter Try.func162, Try.ntmps162
    go_wp2
    go_ret
    exact ⟨_, rfl, World.ownsRow_nil _ _ _ _, Below.refl _ _⟩
  have HO0 := Lib.hid (show (w.alloc (.cells #[] 2)).ownsRow w.heap.size 2 1 (.slice (some ⟨w.heap.size, 0, none⟩) 0 0) 0 [] from World.ownsRow_lit w #[] 0 (Nat.le_refl _) (by unfold maxLen; omega) rfl)
  have HB0 := Lib.hid ((Below.refl w.heap.size w).alloc (Nat.le_refl _) (.cells #[] 2))
  have hq := fun W : World => Lib.run_eql_slice_nil (P := Try.prog) W 48 2 (some ⟨b, o, sp⟩) N cap 0 0 Try.underlying48
  go_enter Try.func162, Try.ntmps162
  go_wp2_with (at_builtin; refine wpList_append_nums rfl (.tmp 5) (.tmp 6) 48 rfl w.heap.size 2 i0 (.int .i64 0) 8 Try.underlying48 hi hz0 hz1 hz2 rfl _ 0 [] rfl HO0.out (some ⟨b, o, sp⟩) cap l N HNl.out (by rfl) (HI.out.kept HB0.out) (by unfold maxLen; omega) (by omega) (by simp) ?_; intro v2 w2 hown2 hg2; have HO2 := Lib.hid (show w2.ownsRow w.heap.size 2 1 v2 N (ncells l) from (by simpa using hown2)); have b2 : Below w.heap.size w w2 := HB0.out.grown hg2 (by simp) (fun q hq => (World.ownsRow.lt HO0.out q hq).1); clear hown2 hg2)
  go_ret
  exact ⟨_, rfl, HO2.out, b2⟩
end Go.Proofs.Ytpolpkheaibonaa
