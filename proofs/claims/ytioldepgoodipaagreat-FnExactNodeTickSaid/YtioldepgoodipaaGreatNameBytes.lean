/- The bytes of a Name: the model's. For every eight values; nothing that was there is written. -/
import Derived.Test.YtioldepgoodipaaGreatName
namespace Go.Proofs.YtioldepgoodipaaGreat
open Go.RowKit
set_option linter.unusedVariables false

theorem heap_next (w : World) (o o2 : Obj) : ((w.alloc o).alloc o2).heap[w.heap.size + 1]? = some o2 := by
  have := heap_alloc_new (w.alloc o) o2
  simpa using this

set_option maxRecDepth 100000 in
set_option maxHeartbeats 2000000 in
theorem l04Bytes_any (n : Nm) (w : World) (h : okB n = true) :
    Calls Tryz.prog 205 #[nmV n] w fun e w' => e = .returned (.string ⟨(nmL n).toArray⟩) ∧ Below w.heap.size w w' := by
  have hk := nmK_bounds h
  have ht := nmT_bounds h
  have hcs := nmL_cells h
  have hl := nmL_len n
  have hr := okB_of h
  have hkd : nmK n = n.u + 2097152 * n.m := rfl
  have htd : nmT n = n.s + 16 * n.y + if n.a = true then 128 else 0 := rfl
  clear h
  obtain ⟨l, hle⟩ : ∃ l, nmL n = l := ⟨_, rfl⟩
  rw [hle] at hcs hl ⊢
  clear hle
  generalize nmK n = k at *
  generalize nmT n = t at *
  obtain ⟨u, m, i, f, c, s, y, a⟩ := n
  unfold nmV
  dsimp only at *
  obtain ⟨⟨hu0, hu1⟩, ⟨hm0, hm1⟩, ⟨hi0, hi1⟩, ⟨hf0, hf1⟩, ⟨hc0, hc1⟩, ⟨hs0, hs1⟩, ⟨hy0, hy1⟩⟩ := hr
  have hh : ∀ o : Obj, ((w.alloc o).alloc (.cells #[.int .u8 (k % 256), .int .u8 (k / 256 % 256), .int .u8 (k / 65536 % 256), .int .u8 (k / 16777216), .int .u8 i, .int .u8 f, .int .u8 (2 * c), .int .u8 t] 5)).heap[w.heap.size + 1]? = some (.cells #[.int .u8 (k % 256), .int .u8 (k / 256 % 256), .int .u8 (k / 65536 % 256), .int .u8 (k / 16777216), .int .u8 i, .int .u8 f, .int .u8 (2 * c), .int .u8 t] 5) := fun o => heap_next w o _
  have hcv := fun o => conv_row (P := Tryz.prog) (hh o) (l := l) 8 hl.symm (by rw [hcs]; rfl) 153 9 Tryz.underlying153 Tryz.underlying5 Tryz.underlying9 8
  clear hh
  have hk' : u + 2097152 * m = k := hkd.symm
  clear hcs hkd
  cases a
  · have ht' : s + 16 * y = t := by simp at htd; exact htd.symm
    clear htd
    go_enter Tryz.func205, Tryz.ntmps205
    go_wp2
    go_ret
    exact ⟨rfl, ((Below.refl _ _).alloc (Nat.le_refl _) _).alloc (by simp) _⟩
  · have ht' : s + 16 * y + 128 = t := by simp at htd; exact htd.symm
    clear htd
    go_enter Tryz.func205, Tryz.ntmps205
    go_wp2
    go_ret
    exact ⟨rfl, ((Below.refl _ _).alloc (Nat.le_refl _) _).alloc (by simp) _⟩

set_option maxHeartbeats 1000000 in
theorem specNameBytes_any (n : Nm) (w : World) :
    Calls Tryz.prog 177 #[nmV n] w fun e w' => e = .returned (.string ⟨(nmBytes n).toArray⟩) ∧ Below w.heap.size w w' := by
  rcases h : okB n
  · have HO := Lib.hid (show nmBytes n = [] by simp [nmBytes, h])
    have HR := fun W => Lib.hid (specNameOk_any n W)
    rw [h] at HR
    unfold nmV at *
    go_enter Tryz.func177, Tryz.ntmps177
    go_wp2_with (go_at_call 151; refine (HR _).out.mono ?_; rintro e w1 ⟨rfl, h1⟩)
    go_ret
    exact ⟨by rw [HO.out]; rfl, ((Below.refl _ _).alloc (Nat.le_refl _) _).trans (h1.mono (by simp))⟩
  · have HO := Lib.hid (show nmBytes n = nmL n by simp [nmBytes, h])
    have HR := fun W => Lib.hid (specNameOk_any n W)
    have HB := fun W => Lib.hid (l04Bytes_any n W h)
    rw [h] at HR
    rw [← HO.out] at HB
    clear h HO
    unfold nmV at *
    go_enter Tryz.func177, Tryz.ntmps177
    go_wp2_with (first
      | (go_at_call 151; refine (HR _).out.mono ?_; rintro e w1 ⟨rfl, h1⟩; obtain ⟨c1, f1⟩ := bcell h1; have z1 : w.heap.size < w1.heap.size := (by have := h1.size; simp at this; omega))
      | (go_at_call 205; refine (HB _).out.mono ?_; rintro e w2 ⟨rfl, h2⟩))
    go_ret
    exact ⟨rfl, (((Below.refl _ _).alloc (Nat.le_refl _) _).trans (h1.mono (by simp))).trans (h2.mono (Nat.le_of_lt z1))⟩
end Go.Proofs.YtioldepgoodipaaGreat
