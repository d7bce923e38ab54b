/- A copy of rows of structs in new memory: slices.Clone. Nothing that was there is written. -/
import Derived.Test.YtdhmcepnmbchkaaHds
import Derived.Test.YtdhmcepnmbchkaaDvs
import Derived.Test.YtdhmcepnmbchkaaLits
import Derived.Lib.SliceRun
namespace Go.Proofs.Ytdhmcepnmbchkaa
open Go.RowKit Go.Joins
set_option linter.unusedVariables false

theorem OwnIn.out {α : Type} {c : α → List Value} {s : Nat} {e : TypeId} {lo hi lo' hi' : Nat} {w w' : World} {v : Value} {l : List α} (h : OwnIn c s e lo hi w v l) (ho : Out lo' hi' w w') (hh : hi ≤ w.heap.size) (hd : hi ≤ lo' ∨ hi' ≤ lo) : OwnIn c s e lo hi w' v l :=
  (h.solid.out ho hh hd).here
theorem OwnIn.low {α : Type} {c : α → List Value} {s : Nat} {e : TypeId} {lo hi lo' : Nat} {w : World} {v : Value} {l : List α} (h : OwnIn c s e lo hi w v l) (h1 : lo' ≤ lo) : OwnIn c s e lo' hi w v l := by
  obtain ⟨⟨k0, k1⟩, k2⟩ := h
  refine ⟨⟨k0, ?_⟩, k2⟩
  rcases k1 with k1 | ⟨g, cap, cur, rfl, hb, r⟩
  · exact .inl k1
  · exact .inr ⟨g, cap, cur, rfl, by omega, r⟩
/-- Rows of two types stand in two blocks. -/
theorem ownIn_apart {α β : Type} {c : α → List Value} {d : β → List Value} {s t : Nat} {e f : TypeId} {lo hi lo' hi' : Nat} {w : World} {a : Option Addr} {v : Value} {l : List α} {m : List β} (hne : e ≠ f)
    (h : RsNew c s e lo hi w a l) (h' : OwnIn d t f lo' hi' w v m) (h1 : lo ≤ hi) (h2 : lo' ≤ hi') :
    ∃ x1 y1 x2 y2, (lo ≤ x1 ∧ x1 ≤ y1 ∧ y1 ≤ hi) ∧ (lo' ≤ x2 ∧ x2 ≤ y2 ∧ y2 ≤ hi') ∧ (y1 ≤ x2 ∨ y2 ≤ x1) ∧ RsNew c s e x1 y1 w a l ∧ OwnIn d t f x2 y2 w v m := by
  obtain ⟨⟨k0, k1⟩, k2⟩ := h'
  rcases k1 with ⟨rfl, k1⟩ | ⟨g, cap, cur, rfl, hb, hg, r⟩
  · have q : ∀ x y, OwnIn d t f x y w (.slice none 0 0) m := fun x y => ⟨⟨k0, .inl ⟨rfl, k1⟩⟩, fun k hk => by cases hk⟩
    by_cases z : hi ≤ lo'
    · exact ⟨lo, hi, lo', lo', by omega, by omega, .inl z, h, q _ _⟩
    · rcases h with rfl | ⟨B, o, row, rfl, g1, g2, r⟩
      · by_cases z2 : lo ≤ lo'
        · exact ⟨lo, lo, lo', lo', by omega, by omega, .inl z2, .inl rfl, q _ _⟩
        · exact ⟨lo, lo, lo', lo', by omega, by omega, .inr (by omega), .inl rfl, q _ _⟩
      · by_cases z2 : B < lo'
        · exact ⟨B, B + 1, lo', lo', by omega, by omega, .inl z2, .inr ⟨B, o, row, rfl, Nat.le_refl _, Nat.lt_succ_self _, r⟩, q _ _⟩
        · exact ⟨B, B + 1, lo', lo', by omega, by omega, .inr (by omega), .inr ⟨B, o, row, rfl, Nat.le_refl _, Nat.lt_succ_self _, r⟩, q _ _⟩
  · have hgh := k2 g rfl
    have q : OwnIn d t f g (g + 1) w (.slice (some ⟨g, 0, none⟩) m.length cap) m := ⟨⟨k0, .inr ⟨g, cap, cur, rfl, Nat.le_refl _, hg, r⟩⟩, fun k hk => by simp [Value.ownBlock] at hk; omega⟩
    rcases h with rfl | ⟨B, o, row, rfl, g1, g2, hB, r2⟩
    · by_cases z2 : lo ≤ g
      · exact ⟨lo, lo, g, g + 1, by omega, by omega, .inl z2, .inl rfl, q⟩
      · exact ⟨lo, lo, g, g + 1, by omega, by omega, .inr (by omega), .inl rfl, q⟩
    · have hBB : B ≠ g := by
        rintro rfl
        rw [hg] at hB
        injection hB with hB
        injection hB with _ ht _
        exact hne ht.symm
      exact ⟨B, B + 1, g, g + 1, by omega, by omega, by omega, .inr ⟨B, o, row, rfl, Nat.le_refl _, Nat.lt_succ_self _, hB, r2⟩, q⟩
theorem Clone.info_h : (Try.prog.info? 112).map (fun i => (i.zero, i.size, i.bytes)) = some (some (.agg #[.int .i64 0, .int .i64 0, .int .i64 0]), 3, 24) := by kernel_rfl
set_option maxRecDepth 100000 in
set_option maxHeartbeats 4000000 in
theorem clone_h (a : Option Addr) (cap : Nat) (l : List Hd) (w : World) (h : RsIn hdL 3 w a l) (hlen : l.length ≤ 1048576) :
    Calls Try.prog 130 #[.slice a l.length cap] w fun e w' => ∃ v, e = .returned v ∧ OwnIn hdL 3 112 w.heap.size w'.heap.size w' v l ∧ Below w.heap.size w w' := by
  obtain ⟨i0, hi, hz0, hz1, hz2⟩ := info_parts Clone.info_h
  have HI0 := Lib.hid (And.intro hi (And.intro hz0 (And.intro hz1 hz2)))
  clear hi hz0 hz1 hz2
  obtain ⟨N, hN⟩ : ∃ N, l.length = N := ⟨_, rfl⟩
  have HNl := Lib.hid hN
  rw [hN] at hlen ⊢
  clear hN
  have HI := Lib.hid h
  clear h
  rcases a with _ | ⟨b, o, sp⟩
  · have hl : l = [] := by
      rcases HI.out with h | ⟨b, o', h', _⟩
      · exact h
      · cases h'
    obtain rfl : N = 0 := by rw [← HNl.out, hl]; rfl
    subst hl
    clear HI HNl
    have hq := fun W : World => Lib.run_eql_slice_nil (P := Try.prog) W 65 112 none 0 cap 0 0 Try.underlying65
    go_enter Try.func130, Try.ntmps130
    go_wp2
    go_ret
    exact ⟨_, rfl, OwnIn.none _, Below.refl _ _⟩
  have hq := fun W : World => Lib.run_eql_slice_nil (P := Try.prog) W 65 112 (some ⟨b, o, sp⟩) N cap 0 0 Try.underlying65
  go_enter Try.func130, Try.ntmps130
  go_wp2_with (first
    | (refine wpList_lit0 hdL 3 rfl 65 rfl 112 i0 Try.underlying65 HI0.out.1 ?_; intro w1 g hg1 hown1 hb1; have HO1 := Lib.hid hown1; have HB1 := Lib.hid hb1; have HG1 := Lib.hid hg1; clear hown1 hb1 hg1)
    | (at_builtin; refine wpList_append_rs hdL_len hdL_one rfl (.tmp 5) (.tmp 6) 65 rfl 112 i0 (.agg #[.int .i64 0, .int .i64 0, .int .i64 0]) 24 Try.underlying65 HI0.out.1 HI0.out.2.1 HI0.out.2.2.1 HI0.out.2.2.2 rfl (by decide) g w1.heap.size _ [] rfl HO1.out (some ⟨b, o, sp⟩) cap l (by rw [HNl.out]; rfl) (HI.out.kept HB1.out) (by rw [HNl.out]; unfold maxLen; show 0 + N ≤ _; omega) (by rw [HNl.out]; show (0 + N) * 24 ≤ _; omega) (by have := HG1.out; have := HB1.out.size; omega) ?_; intro v2 w2 hown2 ho2; have HO2 := Lib.hid hown2; have HB2 := Lib.hid (show Below w.heap.size w w2 from ho2.below HB1.out (by rw [HG1.out]; exact Nat.le_refl _) HB1.out.size); clear hown2 ho2))
  go_ret
  refine ⟨_, rfl, ?_, HB2.out⟩
  have := HO2.out
  rw [List.nil_append, ← HG1.out] at this
  exact this
theorem Clone.info_d : (Try.prog.info? 97).map (fun i => (i.zero, i.size, i.bytes)) = some (some (.agg #[.int .i64 0, .int .i64 0, .int .i64 0, .int .i64 0, .int .i64 0, .int .i64 0, .int .i64 0, .bool false, .int .i64 0, .int .i64 0]), 10, 80) := by kernel_rfl
set_option maxRecDepth 100000 in
set_option maxHeartbeats 4000000 in
theorem clone_d (a : Option Addr) (cap : Nat) (l : List Dv) (w : World) (h : RsIn dvL 10 w a l) (hlen : l.length ≤ 1048576) :
    Calls Try.prog 81 #[.slice a l.length cap] w fun e w' => ∃ v, e = .returned v ∧ OwnIn dvL 10 97 w.heap.size w'.heap.size w' v l ∧ Below w.heap.size w w' := by
  obtain ⟨i0, hi, hz0, hz1, hz2⟩ := info_parts Clone.info_d
  have HI0 := Lib.hid (And.intro hi (And.intro hz0 (And.intro hz1 hz2)))
  clear hi hz0 hz1 hz2
  obtain ⟨N, hN⟩ : ∃ N, l.length = N := ⟨_, rfl⟩
  have HNl := Lib.hid hN
  rw [hN] at hlen ⊢
  clear hN
  have HI := Lib.hid h
  clear h
  rcases a with _ | ⟨b, o, sp⟩
  · have hl : l = [] := by
      rcases HI.out with h | ⟨b, o', h', _⟩
      · exact h
      · cases h'
    obtain rfl : N = 0 := by rw [← HNl.out, hl]; rfl
    subst hl
    clear HI HNl
    have hq := fun W : World => Lib.run_eql_slice_nil (P := Try.prog) W 48 97 none 0 cap 0 0 Try.underlying48
    go_enter Try.func81, Try.ntmps81
    go_wp2
    go_ret
    exact ⟨_, rfl, OwnIn.none _, Below.refl _ _⟩
  have hq := fun W : World => Lib.run_eql_slice_nil (P := Try.prog) W 48 97 (some ⟨b, o, sp⟩) N cap 0 0 Try.underlying48
  go_enter Try.func81, Try.ntmps81
  go_wp2_with (first
    | (refine wpList_lit0 dvL 10 rfl 48 rfl 97 i0 Try.underlying48 HI0.out.1 ?_; intro w1 g hg1 hown1 hb1; have HO1 := Lib.hid hown1; have HB1 := Lib.hid hb1; have HG1 := Lib.hid hg1; clear hown1 hb1 hg1)
    | (at_builtin; refine wpList_append_rs dvL_len dvL_one rfl (.tmp 5) (.tmp 6) 48 rfl 97 i0 (.agg #[.int .i64 0, .int .i64 0, .int .i64 0, .int .i64 0, .int .i64 0, .int .i64 0, .int .i64 0, .bool false, .int .i64 0, .int .i64 0]) 80 Try.underlying48 HI0.out.1 HI0.out.2.1 HI0.out.2.2.1 HI0.out.2.2.2 rfl (by decide) g w1.heap.size _ [] rfl HO1.out (some ⟨b, o, sp⟩) cap l (by rw [HNl.out]; rfl) (HI.out.kept HB1.out) (by rw [HNl.out]; unfold maxLen; show 0 + N ≤ _; omega) (by rw [HNl.out]; show (0 + N) * 80 ≤ _; omega) (by have := HG1.out; have := HB1.out.size; omega) ?_; intro v2 w2 hown2 ho2; have HO2 := Lib.hid hown2; have HB2 := Lib.hid (show Below w.heap.size w w2 from ho2.below HB1.out (by rw [HG1.out]; exact Nat.le_refl _) HB1.out.size); clear hown2 ho2))
  go_ret
  refine ⟨_, rfl, ?_, HB2.out⟩
  have := HO2.out
  rw [List.nil_append, ← HG1.out] at this
  exact this
end Go.Proofs.Ytdhmcepnmbchkaa
