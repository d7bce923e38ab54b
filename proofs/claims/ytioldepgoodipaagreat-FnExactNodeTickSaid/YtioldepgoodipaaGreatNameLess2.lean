/- Which of two Names is less, of all: the model's and the program's. For every two; nothing that was there is written. -/
import Derived.Test.YtioldepgoodipaaGreatNameLess
namespace Go.Proofs.YtioldepgoodipaaGreat
open Go.RowKit
set_option linter.unusedVariables false

/-- Both are right, and the first one's number is the lesser. -/
def nmLessB (a b : Nm) : Bool := okB a && (okB b && decide (nmN a < nmN b))


set_option maxRecDepth 100000 in
set_option maxHeartbeats 1000000 in
theorem nameNumber_any (n : Nm) (w : World) (h : okB n = true) :
    Calls Tryz.prog 243 #[nmV n] w fun e w' => e = .returned (.int .u64 (nmN n)) ∧ Below w.heap.size w w' := by
  have HB := fun W => Lib.hid (implNameBytes_any n W)
  have hk := nmK_bounds h
  have ht := nmT_bounds h
  have hr := okB_of h
  obtain ⟨y0, y1, y2, y3, y4, y5, y6, y7, e, p0, p1, p2, p3, p4, p5, p6, p7⟩ := nmL_bytes h
  have hl : nmBytes n = [y0, y1, y2, y3, y4, y5, y6, y7] := by rw [← e]; simp [nmBytes, h]
  rw [hl] at HB
  have hN : nmN n = y0.toNat + y1.toNat * 256 + y2.toNat * 65536 + y3.toNat * 16777216 + y4.toNat * 4294967296 + y5.toNat * 1099511627776 + y6.toNat * 281474976710656 + y7.toNat * 72057594037927936 := by
    unfold nmN
    rw [p0, p1, p2, p3, p4, p5, p6, p7]
  rw [hN]
  clear hN hl e h p0 p1 p2 p3 p4 p5 p6 p7 hk ht hr
  have HG := fun (g cap : Nat) (W : World) (hin : BytesIn W g [y0, y1, y2, y3, y4, y5, y6, y7]) => Lib.hid (getLow8_any g 0 cap y0.toNat y1.toNat y2.toNat y3.toNat y4.toNat y5.toNat y6.toNat y7.toNat W (hin 0 (by simp)).1 (hin 1 (by simp)).1 (hin 2 (by simp)).1 (hin 3 (by simp)).1 (hin 4 (by simp)).1 (hin 5 (by simp)).1 (hin 6 (by simp)).1 (hin 7 (by simp)).1
    (by have := y0.toNat_lt; omega) (by have := y1.toNat_lt; omega) (by have := y2.toNat_lt; omega) (by have := y3.toNat_lt; omega) (by have := y4.toNat_lt; omega) (by have := y5.toNat_lt; omega) (by have := y6.toNat_lt; omega) (by have := y7.toNat_lt; omega))
  unfold nmV at *
  go_enter Tryz.func243, Tryz.ntmps243
  go_wp2_with (first
    | (go_at_call 238; refine (HB _).out.mono ?_; rintro e w1 ⟨rfl, h1⟩)
    | (refine wpList_bytes rfl (.tmp 4) 9 153 5 rfl Tryz.underlying9 Tryz.underlying153 Tryz.underlying5 [y0, y1, y2, y3, y4, y5, y6, y7] rfl (fun cap w2 hin h2 z2 hcap => ?_); have HI := Lib.hid hin; clear hin)
    | (go_at_call 254; refine (HG _ _ _ HI.out).out.mono ?_; rintro e w3 ⟨rfl, rfl⟩))
  go_ret
  exact ⟨rfl, (((Below.refl _ _).alloc (Nat.le_refl _) _).trans (h1.mono (by simp))).trans (h2.mono (by have := h1.size; simp at this; omega))⟩
end Go.Proofs.YtioldepgoodipaaGreat
