/- The bytes of a Name: the program's. For every eight values; nothing that was there is written. -/
import Derived.Test.YtioldepgoodipaaGreatNameBytes
import Derived.Test.YtioldepgoodipaaGreatLowFirst
import Derived.Deep.RegionHeld3
import Derived.Deep.DeepCutAuto
import Derived.Deep.CutRange
import Derived.Handy
namespace Go.Proofs.YtioldepgoodipaaGreat
open Go.RowKit
set_option linter.unusedVariables false

theorem NameImpl.info8 : (Tryz.prog.info? 5).map (fun i => (i.zero, i.size, i.bytes)) = some (some (.int .u8 0), 1, 1) := by kernel_rfl
theorem NameImpl.one8 : (Tryz.prog.info? 5).map (·.size) = some 1 := by kernel_rfl
theorem eight {α : Type} {l : List α} (h : l.length = 8) : ∃ x0 x1 x2 x3 x4 x5 x6 x7, l = [x0, x1, x2, x3, x4, x5, x6, x7] := by
  match l, h with
  | [x0, x1, x2, x3, x4, x5, x6, x7], _ => exact ⟨x0, x1, x2, x3, x4, x5, x6, x7, rfl⟩
theorem heap_lt {w : World} {g : Nat} {o : Obj} (h : w.heap[g]? = some o) : g < w.heap.size := by
  rcases Nat.lt_or_ge g w.heap.size with h' | h'
  · exact h'
  · simp [Array.getElem?_eq_none h'] at h
theorem below_drewN' {B : Nat} {a w : World} (h : Below B a w) (n : Nat) : Below B a (w.drewN n) := ⟨h.os, h.tape, h.output, h.size, h.block⟩
theorem cells_first' {w : World} {B : Nat} {cs : Array Value} {t : TypeId} {fr : Nat × Nat} (hb : w.heap[B]? = some (.cells cs t fr)) {l : List Value} (hl : cs.toList = l := by rfl) : ∀ (j : Nat) u, l[j]? = some u → w.cell? ((⟨B, 0, none⟩ : Addr).add j) = some u := fun j u hu => by
  have hadd : (⟨B, 0, none⟩ : Addr).add j = ⟨B, j, none⟩ := by unfold Addr.add; split <;> simp_all
  rw [hadd, cell_of_row w B j cs t fr hb]
  subst hl
  simpa using hu

set_option maxHeartbeats 1000000 in
theorem lastByte_any (n : Nm) (w : World) (h : okB n = true) :
    Calls Tryz.prog 256 #[nmV n] w fun e w' => e = .returned (.int .u8 (nmT n)) ∧ Below w.heap.size w w' := by
  have ht := nmT_bounds h
  have hr := okB_of h
  have htd : nmT n = n.s + 16 * n.y + if n.a = true then 128 else 0 := rfl
  clear h
  generalize nmT n = t at *
  obtain ⟨u, m, i, f, c, s, y, a⟩ := n
  unfold nmV
  dsimp only at *
  obtain ⟨⟨hu0, hu1⟩, ⟨hm0, hm1⟩, ⟨hi0, hi1⟩, ⟨hf0, hf1⟩, ⟨hc0, hc1⟩, ⟨hs0, hs1⟩, ⟨hy0, hy1⟩⟩ := hr
  cases a
  · have ht' : s + 16 * y = t := by simp at htd; exact htd.symm
    clear htd
    go_enter Tryz.func256, Tryz.ntmps256
    go_wp2
    go_ret
    exact ⟨rfl, (Below.refl _ _).alloc (Nat.le_refl _) _⟩
  · have ht' : s + 16 * y + 128 = t := by simp at htd; exact htd.symm
    clear htd
    go_enter Tryz.func256, Tryz.ntmps256
    go_wp2
    go_ret
    exact ⟨rfl, (Below.refl _ _).alloc (Nat.le_refl _) _⟩

set_option maxRecDepth 100000 in
set_option maxHeartbeats 4000000 in
theorem implNameBytes_any (n : Nm) (w : World) :
    Calls Tryz.prog 238 #[nmV n] w fun e w' => e = .returned (.string ⟨(nmBytes n).toArray⟩) ∧ Below w.heap.size w w' := by
  rcases h : okB n
  · have HO := Lib.hid (show nmBytes n = [] by simp [nmBytes, h])
    have HR := fun W => Lib.hid (implNameOk_any n W)
    rw [h] at HR
    unfold nmV at *
    go_enter Tryz.func238, Tryz.ntmps238
    go_wp2_with (go_at_call 186; refine (HR _).out.mono ?_; rintro e w1 ⟨rfl, h1⟩)
    go_ret
    exact ⟨by rw [HO.out]; rfl, ((Below.refl _ _).alloc (Nat.le_refl _) _).trans (h1.mono (by simp))⟩
  · have HO := Lib.hid (show nmBytes n = nmL n by simp [nmBytes, h])
    have HR := fun W => Lib.hid (implNameOk_any n W)
    have HT := fun W => Lib.hid (lastByte_any n W h)
    rw [h] at HR
    have hk := nmK_bounds h
    have ht := nmT_bounds h
    have hcs := nmL_cells h
    have hl := nmL_len n
    have hr := okB_of h
    have hkd : nmK n = n.u + 2097152 * n.m := rfl
    clear h
    obtain ⟨l, hle⟩ : ∃ l, nmL n = l := ⟨_, rfl⟩
    rw [hle] at hcs hl HO
    clear hle
    generalize nmK n = k at *
    generalize nmT n = t at *
    obtain ⟨u, m, i, f, c, s, y, a⟩ := n
    unfold nmV at *
    dsimp only at *
    obtain ⟨⟨hu0, hu1⟩, ⟨hm0, hm1⟩, ⟨hi0, hi1⟩, ⟨hf0, hf1⟩, ⟨hc0, hc1⟩, ⟨hs0, hs1⟩, ⟨hy0, hy1⟩⟩ := hr
    have hk' : u + 2097152 * m = k := hkd.symm
    clear hkd
    have HC := Lib.hid hcs
    have HL := Lib.hid hl
    clear hcs hl
    obtain ⟨i0, hi, hz0, hz1, hz2⟩ := info_parts NameImpl.info8
    go_enter Tryz.func238, Tryz.ntmps238
    go_wp2_with (first
      | (go_at_call 186; refine (HR _).out.mono ?_; rintro e w1 ⟨rfl, h1⟩; obtain ⟨c1, f1⟩ := bcell h1; have z1 : w.heap.size < w1.heap.size := (by have := h1.size; simp at this; omega))
      | (at_make; refine wpList_make_full _ rfl (.const (.int .i64 8)) (.const (.int .i64 8)) 153 rfl w1.heap.size 5 i0 (.int .u8 0) 1 Tryz.underlying153 hi hz0 hz1 .i64 .i64 8 8 8 (by rfl) (by rfl) (by omega) (by omega) (by rw [hz2]; omega) (by unfold maxLen; omega) (Nat.le_refl _) ?_; intro w2 hown hgrow; have b2 : Below w1.heap.size w1 w2 := (Below.refl _ _).grown hgrow (Nat.le_refl _) (fun _ h => by cases h); obtain ⟨cur, hcur, hlen⟩ := own_row hown; obtain ⟨x0, x1, x2, x3, x4, x5, x6, x7, rfl⟩ := eight hlen; have HC2 := Lib.hid hcur; have z2 : w1.heap.size < w2.heap.size := (heap_lt hcur); clear hcur hlen hown hgrow; obtain ⟨c2, f2⟩ := bcell b2)
      | (go_at_call 253; refine (parts_any _ _ _ _ (by omega)).mono ?_; rintro e w3 ⟨rfl, nd, rfl⟩; have HC2D := Lib.hid (show (w2.drewN nd).heap[w1.heap.size]? = some (.cells [x0, x1, x2, x3, x4, x5, x6, x7].toArray 5 (0, 0)) from HC2.out))
      | (go_at_call 255; (refine (putLowFirst_any w1.heap.size 4 k x0 x1 x2 x3 [x4, x5, x6, x7] 5 (w2.drewN nd) HC2D.out (by omega) (by omega)).mono ?_); rintro e w4 ⟨rfl, hw4⟩; have b4 : Below w1.heap.size w1 w4 := (by rw [hw4]; exact set4_below (below_drewN' b2 _) (Nat.le_refl _)); have hs4 := set4_heap (k := k) (r := [x4, x5, x6, x7]) (w := w2.drewN nd) HC2D.out; rw [← hw4] at hs4; have HC4 := Lib.hid hs4; clear hs4 hw4))
    have kc : (w1.cell? ⟨w.heap.size, 0, none⟩ = some (.int .i64 u) ∧ w1.cell? ⟨w.heap.size, 1, none⟩ = some (.int .i64 m) ∧ w1.cell? ⟨w.heap.size, 2, none⟩ = some (.int .i64 i) ∧ w1.cell? ⟨w.heap.size, 3, none⟩ = some (.int .i64 f) ∧ w1.cell? ⟨w.heap.size, 4, none⟩ = some (.int .i64 c) ∧ w1.cell? ⟨w.heap.size, 5, none⟩ = some (.int .i64 s) ∧ w1.cell? ⟨w.heap.size, 6, none⟩ = some (.int .i64 y) ∧ w1.cell? ⟨w.heap.size, 7, none⟩ = some (.bool a)) := by
      refine ⟨?_, ?_, ?_, ?_, ?_, ?_, ?_, ?_⟩ <;> (rw [c1 _ _ (by simp)]; simp [go_sem])
    have hz4 : w1.heap.size < w4.heap.size := heap_lt HC4.out
    have keep : ∀ W, Below w1.heap.size w1 W → (fun W => (W.cell? ⟨w.heap.size, 0, none⟩ = some (.int .i64 u) ∧ W.cell? ⟨w.heap.size, 1, none⟩ = some (.int .i64 m) ∧ W.cell? ⟨w.heap.size, 2, none⟩ = some (.int .i64 i) ∧ W.cell? ⟨w.heap.size, 3, none⟩ = some (.int .i64 f) ∧ W.cell? ⟨w.heap.size, 4, none⟩ = some (.int .i64 c) ∧ W.cell? ⟨w.heap.size, 5, none⟩ = some (.int .i64 s) ∧ W.cell? ⟨w.heap.size, 6, none⟩ = some (.int .i64 y) ∧ W.cell? ⟨w.heap.size, 7, none⟩ = some (.bool a)) ∧ Below w1.heap.size w1 W) W := fun W hW => by
      obtain ⟨k0, k1, k2, k3, k4, k5, k6, k7⟩ := kc
      exact ⟨⟨(hW.cell (p := ⟨_, _, none⟩) z1).trans k0, (hW.cell (p := ⟨_, _, none⟩) z1).trans k1, (hW.cell (p := ⟨_, _, none⟩) z1).trans k2, (hW.cell (p := ⟨_, _, none⟩) z1).trans k3, (hW.cell (p := ⟨_, _, none⟩) z1).trans k4, (hW.cell (p := ⟨_, _, none⟩) z1).trans k5, (hW.cell (p := ⟨_, _, none⟩) z1).trans k6, (hW.cell (p := ⟨_, _, none⟩) z1).trans k7⟩, hW⟩
    have HK := Lib.hid keep
    clear keep kc
    have b0 : Below w.heap.size w w1 := ((Below.refl _ _).alloc (Nat.le_refl _) _).trans (h1.mono (by simp))
    clear c1 f1 h1 c2 f2
    have wi : IntKind.u8.wrap i = i := IntWalk.u8_in _ (by omega)
    have wf : IntKind.u8.wrap f = f := IntWalk.u8_in _ (by omega)
    have wc : IntKind.i64.wrap (2 * c) = 2 * c := IntWalk.i64_in _ (by omega)
    have wd : IntKind.u8.wrap (2 * c) = 2 * c := IntWalk.u8_in _ (by omega)
    go_region_held3 (fun W => (W.cell? ⟨w.heap.size, 0, none⟩ = some (.int .i64 u) ∧ W.cell? ⟨w.heap.size, 1, none⟩ = some (.int .i64 m) ∧ W.cell? ⟨w.heap.size, 2, none⟩ = some (.int .i64 i) ∧ W.cell? ⟨w.heap.size, 3, none⟩ = some (.int .i64 f) ∧ W.cell? ⟨w.heap.size, 4, none⟩ = some (.int .i64 c) ∧ W.cell? ⟨w.heap.size, 5, none⟩ = some (.int .i64 s) ∧ W.cell? ⟨w.heap.size, 6, none⟩ = some (.int .i64 y) ∧ W.cell? ⟨w.heap.size, 7, none⟩ = some (.bool a)) ∧ Below w1.heap.size w1 W)
      (first | exact HK.out _ b4.drew | exact HK.out _ b5 | exact HK.out _ (b5.alloc (Nat.le_of_lt hz5) _) | exact HK.out _ b7)
      (first
        | (go_at_call 256; refine (HT _).out.mono ?_; rintro e w5 ⟨rfl, h5⟩; have b5 : Below w1.heap.size w1 w5 := b4.drew.trans (h5.mono (Nat.le_of_lt hz4)); have HC5 := Lib.hid ((h5.block w1.heap.size hz4).trans HC4.out); have hz5 : w1.heap.size < w5.heap.size := heap_lt HC5.out)
        | (refine step_copy_splice rfl (.tmp 23) (.tmp 36) 153 153 rfl 5 Tryz.underlying153 NameImpl.one8 (some ⟨w1.heap.size, 4, none⟩) (some ⟨w5.heap.size, 0, none⟩) 4 4 4 4 rfl rfl w1.heap.size 4 _ 5 ((Below.heap_alloc w5 _ _ hz5).trans HC5.out) [.int .u8 i, .int .u8 f, .int .u8 (2 * c), .int .u8 t] rfl (fun _ => ⟨rfl, ⟨w5.heap.size, 0, none⟩, rfl, cells_first' (heap_alloc_new w5 _)⟩) (by simp) (by simp [Value.oneCell']) w1.heap.size w1 (b5.alloc (Nat.le_of_lt hz5) _) (Nat.le_refl _) ?_; intro w7 HC7 b7))
    have hcv := conv_row (P := Tryz.prog) HC7.out (l := l) 8 HL.out.symm (by rw [HC.out]; simp [splice]) 153 9 Tryz.underlying153 Tryz.underlying5 Tryz.underlying9 8
    clear HC7 HK
    go_wp2
    go_ret
    exact ⟨by rw [HO.out]; rfl, b0.trans (b7.mono (Nat.le_of_lt z1))⟩
end Go.Proofs.YtioldepgoodipaaGreat
