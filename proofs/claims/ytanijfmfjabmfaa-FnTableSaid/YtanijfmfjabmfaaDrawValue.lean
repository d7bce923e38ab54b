/- A drawn Value of a Field: what the draw leaves. Nothing that was there is written, but the source. -/
import Derived.Test.YtanijfmfjabmfaaDrawField
import Derived.Test.YtanijfmfjabmfaaBitsVal
namespace Go.Proofs.Ytanijfmfjabmfaa
open Go.RowKit
set_option linter.unusedVariables false

theorem low_bnd (a w : Int) (g : Bool) : -4294967296 ≤ lowI a w g ∧ lowI a w g ≤ 0 := by
  cases h : fieldB a w
  · rw [lowI_off h]; omega
  · exact lowI_in g h
theorem high_bnd (a w : Int) (g : Bool) : -1 ≤ highI a w g ∧ highI a w g ≤ 4294967295 := by
  cases h : fieldB a w
  · rw [highI_off h]; omega
  · exact highI_in g h
theorem l01Max_bits (a b : Int) (w : World) :
    Calls Try.prog 206 #[.int .i64 a, .int .i64 b] w fun e w' => ∃ m : Int, e = .returned (.int .i64 m) ∧ (m = a ∨ m = b) ∧ a ≤ m ∧ b ≤ m ∧ w = w' := by
  by_cases h : b < a
  · have hd : decide (b < a) = true := decide_eq_true h
    go_enter Try.func206, Try.ntmps206
    go_wp2
    go_ret
    exact ⟨a, rfl, .inl rfl, by omega, by omega, rfl⟩
  · have hd : decide (b < a) = false := decide_eq_false h
    go_enter Try.func206, Try.ntmps206
    go_wp2
    go_ret
    exact ⟨b, rfl, .inr rfl, by omega, by omega, rfl⟩
/-- What holds of the world in the midst of it. -/
structure CV (w : World) (S : Nat) (a : Option Addr) (len cap : Nat) (zs : List Int) (u : World) (x y : Int) (g : Bool) (W : World) : Prop where
  dr : Dr w S a len cap zs W
  grown : u.grownBy W (some S)
  lo : w.heap.size ≤ u.heap.size
  lt : u.heap.size + 1 < W.heap.size
  ne : S < u.heap.size
  fld : W.heap[u.heap.size]? = some (.cells #[.int .i64 x, .int .i64 y, .bool g] 77 (0, 0))
  res : W.heap[u.heap.size + 1]? = some (.cells #[.int .i64 0, .int .i64 0] 142 (0, 0))
section
variable {w u u' : World} {S : Nat} {a : Option Addr} {len cap : Nat} {zs : List Int} {x y : Int} {g : Bool}
theorem CV.on {W W' : World} (h : CV w S a len cap zs u x y g W) (hd : Dr w S a len cap zs W') (hg : W.grownBy W' (some S)) : CV w S a len cap zs u x y g W' := by
  have hl := h.lt
  have hn := h.ne
  exact ⟨hd, grownBy_trans h.grown hg, h.lo, Nat.lt_of_lt_of_le h.lt hg.size, h.ne, (hg.block _ (by omega) (by simp; omega)).trans h.fld, (hg.block _ (by omega) (by simp; omega)).trans h.res⟩
theorem grown_of_below {W W' : World} {r : Option Nat} (hb : Below W.heap.size W W') : W.grownBy W' r := ⟨hb.os, hb.tape, hb.output, hb.size, fun k hk _ => hb.block k hk⟩
theorem CV.made {W W' : World} (h : CV w S a len cap zs u x y g W) (hb : Below W.heap.size W W') : CV w S a len cap zs u x y g W' := h.on (h.dr.made hb) (grown_of_below hb)
theorem CV.fin {W : World} (h : CV w S a len cap zs u x y g W) : Fin3 w S a len cap zs u W := ⟨h.dr, h.grown, h.lo⟩
/-- A drawn Value. -/
def NextVl (w : World) (S : Nat) (a : Option Addr) (len cap : Nat) (zs : List Int) (u : World) (e : Ending) (u' : World) : Prop :=
  ∃ (k n : Int), e = .returned (vlV k n) ∧ I64P k ∧ I64P n ∧ Dr w S a len cap zs u' ∧ u.grownBy u' (some S)
set_option maxRecDepth 100000 in
set_option maxHeartbeats 4000000 in
theorem value_next (h : Dr w S a len cap zs u) : Calls Try.prog 174 #[.pointer (some ⟨S, 0, none⟩), fdV x y g] u (NextVl w S a len cap zs u) := by
  have hS := h.src.lt
  have hF : CV w S a len cap zs u x y g ((u.alloc (.cells #[.int .i64 x, .int .i64 y, .bool g] 77)).alloc (.cells #[.int .i64 0, .int .i64 0] 142)) :=
    ⟨(h.alloc _).alloc _, grownBy_alloc (World.grownBy_alloc _ _ _) _, h.below.size, by simp, hS, twoF u x y g 0 0, twoV u x y g 0 0⟩
  have H0 := Lib.hid hF
  have hL := low_bnd x y g
  have hH := high_bnd x y g
  have HL := fun U => Lib.hid (specLowOf_any x y g U)
  have HH := fun U => Lib.hid (specHighOf_any x y g U)
  generalize lowI x y g = lo at *
  generalize highI x y g = hi at *
  clear h hF
  unfold fdV at *
  go_enter Try.func174, Try.ntmps174
  go_wp2_with fail
  refine (one_next H0.out.dr 5 (by omega)).mono ?_
  rintro e w1 ⟨b, rfl, hd, hg⟩
  have hgA := hg
  have H1 := Lib.hid (H0.out.on hd hgA)
  clear hd hg hgA
  obtain ⟨y0, y1, y2⟩ := fdCells H1.out.fld
  obtain ⟨r0, r1⟩ := vlCells H1.out.res
  have f0 := frozen_of_row w1 (u.heap.size + 1) 0 _ _ H1.out.res
  have f1 := frozen_of_row w1 (u.heap.size + 1) 1 _ _ H1.out.res
  cases b
  · go_wp2_with fail
    refine ((HL _).out).mono ?_
    rintro e w2 ⟨rfl, hb⟩
    have H2 := Lib.hid (H1.out.made hb)
    clear hb
    clear y0 y1 y2 r0 r1 f0 f1
    obtain ⟨y0, y1, y2⟩ := fdCells H2.out.fld
    obtain ⟨r0, r1⟩ := vlCells H2.out.res
    have f0 := frozen_of_row w2 (u.heap.size + 1) 0 _ _ H2.out.res
    have f1 := frozen_of_row w2 (u.heap.size + 1) 1 _ _ H2.out.res
    go_wp2_with fail
    refine ((HH _).out).mono ?_
    rintro e w3 ⟨rfl, hb⟩
    have H3 := Lib.hid (H2.out.made hb)
    clear hb
    clear y0 y1 y2 r0 r1 f0 f1
    obtain ⟨y0, y1, y2⟩ := fdCells H3.out.fld
    obtain ⟨r0, r1⟩ := vlCells H3.out.res
    have f0 := frozen_of_row w3 (u.heap.size + 1) 0 _ _ H3.out.res
    have f1 := frozen_of_row w3 (u.heap.size + 1) 1 _ _ H3.out.res
    go_wp2_with fail
    refine (one_next H3.out.dr 4 (by omega)).mono ?_
    rintro e w4 ⟨b, rfl, hd, hg⟩
    have hgA := hg
    have H4 := Lib.hid (H3.out.on hd hgA)
    clear hd hg hgA
    clear y0 y1 y2 r0 r1 f0 f1
    obtain ⟨y0, y1, y2⟩ := fdCells H4.out.fld
    obtain ⟨r0, r1⟩ := vlCells H4.out.res
    have f0 := frozen_of_row w4 (u.heap.size + 1) 0 _ _ H4.out.res
    have f1 := frozen_of_row w4 (u.heap.size + 1) 1 _ _ H4.out.res
    cases b
    · have hm1 : hi - lo + 1 ≤ 4294967295 + 4294967296 + 1 := by omega
      go_wp2_with fail
      refine (l01Max_bits _ _ _).mono ?_
      rintro e w' ⟨m, rfl, hm, m0, m1, rfl⟩
      go_wp2_with fail
      refine (n_next H4.out.dr m (by omega)).mono ?_
      rintro e w5 ⟨v, rfl, v0, vm, hd, hg⟩
      have hgA := hg
      have H5 := Lib.hid (H4.out.on hd hgA)
      have hlv : -4294967296 ≤ lo + v ∧ lo + v ≤ 9000000000 := by omega
      clear hd hg hgA hm m0 m1 vm
      clear y0 y1 y2 r0 r1 f0 f1
      obtain ⟨y0, y1, y2⟩ := fdCells H5.out.fld
      obtain ⟨r0, r1⟩ := vlCells H5.out.res
      have f0 := frozen_of_row w5 (u.heap.size + 1) 0 _ _ H5.out.res
      have f1 := frozen_of_row w5 (u.heap.size + 1) 1 _ _ H5.out.res
      have hRS : u.heap.size + 1 ≠ S := by omega
      have HF := Lib.hid H5.out.fin
      go_wp2_with fail
      have fin := (HF.out.set (p := ⟨u.heap.size + 1, 0, none⟩) hRS (by show u.heap.size ≤ u.heap.size + 1; omega) (.int .i64 1)).set (p := ⟨u.heap.size + 1, 1, none⟩) hRS (by show u.heap.size ≤ u.heap.size + 1; omega) (.int .i64 (lo + v))
      exact bodyPost_ret (v := vlV 1 (lo + v)) (by simp [results, Try.results174, go_sem, r0, r1, vlV]) rfl ⟨1, (lo + v), rfl, ⟨by omega, by omega⟩, ⟨by omega, by omega⟩, fin.dr, fin.grown⟩
    · go_wp2_with fail
      refine (n_next (H4.out.dr.alloc _) 4 (by omega)).mono ?_
      rintro e w5 ⟨v, rfl, v0, vm, hd, hg⟩
      have hgA := grownBy_trans (World.grownBy_alloc w4 _ (some S)) hg
      have H5 := Lib.hid (H4.out.on hd hgA)
      have hS2 := H4.out.dr.src.lt
      obtain ⟨z, hz, hm⟩ := pick_cell [lo, hi, lo - 1, hi + 1] hS2 hg v.toNat (by simp; omega)
      have hz2 : -4294967297 ≤ z ∧ z ≤ 4294967296 := by simp at hm; omega
      have hv4 : v < 4 := by omega
      clear hd hg hgA hm vm
      clear y0 y1 y2 r0 r1 f0 f1
      obtain ⟨y0, y1, y2⟩ := fdCells H5.out.fld
      obtain ⟨r0, r1⟩ := vlCells H5.out.res
      have f0 := frozen_of_row w5 (u.heap.size + 1) 0 _ _ H5.out.res
      have f1 := frozen_of_row w5 (u.heap.size + 1) 1 _ _ H5.out.res
      have hRS : u.heap.size + 1 ≠ S := by omega
      have HF := Lib.hid H5.out.fin
      go_wp2_with fail
      have fin := (HF.out.set (p := ⟨u.heap.size + 1, 0, none⟩) hRS (by show u.heap.size ≤ u.heap.size + 1; omega) (.int .i64 1)).set (p := ⟨u.heap.size + 1, 1, none⟩) hRS (by show u.heap.size ≤ u.heap.size + 1; omega) (.int .i64 z)
      exact bodyPost_ret (v := vlV 1 z) (by simp [results, Try.results174, go_sem, r0, r1, vlV]) rfl ⟨1, z, rfl, ⟨by omega, by omega⟩, ⟨by omega, by omega⟩, fin.dr, fin.grown⟩
  · go_wp2_with fail
    refine (n_next H1.out.dr 5 (by omega)).mono ?_
    rintro e w2 ⟨v, rfl, v0, vm, hd, hg⟩
    have hgA := hg
    have H2 := Lib.hid (H1.out.on hd hgA)
    have hv5 : v ≤ 5 := by omega
    clear hd hg hgA vm
    clear y0 y1 y2 r0 r1 f0 f1
    obtain ⟨y0, y1, y2⟩ := fdCells H2.out.fld
    obtain ⟨r0, r1⟩ := vlCells H2.out.res
    have f0 := frozen_of_row w2 (u.heap.size + 1) 0 _ _ H2.out.res
    have f1 := frozen_of_row w2 (u.heap.size + 1) 1 _ _ H2.out.res
    have hRS : u.heap.size + 1 ≠ S := by omega
    have HF := Lib.hid H2.out.fin
    go_wp2_with fail
    have fin := (HF.out.set (p := ⟨u.heap.size + 1, 0, none⟩) hRS (by show u.heap.size ≤ u.heap.size + 1; omega) (.int .i64 v)).set (p := ⟨u.heap.size + 1, 1, none⟩) hRS (by show u.heap.size ≤ u.heap.size + 1; omega) (.int .i64 0)
    exact bodyPost_ret (v := vlV v 0) (by simp [results, Try.results174, go_sem, r0, r1, vlV]) rfl ⟨v, 0, rfl, ⟨by omega, by omega⟩, ⟨by omega, by omega⟩, fin.dr, fin.grown⟩
end
end Go.Proofs.Ytanijfmfjabmfaa
