/- A Claim that waits, and a new one: the program's. Nothing that was there is written. -/
import Derived.Test.YtpolpkheaibonaaClaimImpl
import Derived.Test.YtpolpkheaibonaaClaimNew
import Derived.Test.YtpolpkheaibonaaPutRow
namespace Go.Proofs.Ytpolpkheaibonaa
open Go.RowKit
set_option linter.unusedVariables false

set_option maxRecDepth 100000 in
set_option maxHeartbeats 2000000 in
theorem waitingFor_any (n : Nm) (ad : Int) (a : Option Addr) (N cap : Nat) (w : World) :
    Calls Try.prog 131 #[nmV n, .int .i64 ad, .slice a N cap] w fun e w' => e = .returned (clV n ad 1 250 (.slice a N cap)) ∧ Below w.heap.size w w' := by
  obtain ⟨n0, n1, n2, n3, n4, n5, n6, n7⟩ := n
  unfold clV
  unfold nmV
  dsimp only
  have HB := Lib.hid (((Below.refl w.heap.size w).alloc (Nat.le_refl _) (.cells #[.int .i64 n0, .int .i64 n1, .int .i64 n2, .int .i64 n3, .int .i64 n4, .int .i64 n5, .int .i64 n6, .bool n7] 33)).alloc (by simp) (.cells #[.int .i64 n0, .int .i64 n1, .int .i64 n2, .int .i64 n3, .int .i64 n4, .int .i64 n5, .int .i64 n6, .bool n7, .int .i64 ad, .int .i64 1, .int .i64 250, .slice a N cap] 60))
  go_enter Try.func131, Try.ntmps131
  go_wp2
  exact bodyPost_ret (results_cell_row (p := 6) (ty := 60) (by kernel_rfl) _ _ (w.heap.size + 1) 60 _ (0, 0) _ rfl (heap_next w _ _) Try.underlying60 rfl (by kernel_rfl)) rfl ⟨rfl, HB.out⟩
set_option maxRecDepth 100000 in
set_option maxHeartbeats 2000000 in
theorem implClaimNew_any (n : Nm) (want : Int) (w : World) :
    Calls Try.prog 85 #[nmV n, .int .i64 want] w fun e w' => e = .returned (clNewV n want) ∧ Below w.heap.size w w' := by
  have HN := fun W => Lib.hid (implNameOk_any n W)
  have HA := fun W => Lib.hid (from0_any want 251 W)
  have HF := fun W => Lib.hid (waitingFor_any n want none 0 0 W)
  obtain ⟨V, hV⟩ : ∃ V, clNewV n want = V := ⟨_, rfl⟩
  have HV := Lib.hid (show (if (okB n && inB 0 251 want) = true then clOutV n want 1 250 (.slice none 0 0) true 0 else clOutV ⟨0, 0, 0, 0, 0, 0, 0, false⟩ 0 0 0 (.slice none 0 0) false 1) = V from hV)
  rw [hV]
  clear hV
  generalize okB n = vn at *
  generalize inB 0 251 want = va at *
  obtain ⟨n0, n1, n2, n3, n4, n5, n6, n7⟩ := n
  unfold clOutV at HV
  unfold clV at HF
  unfold nmV at *
  dsimp only at *
  have HX := Lib.hid (heap_next w (.cells #[.int .i64 n0, .int .i64 n1, .int .i64 n2, .int .i64 n3, .int .i64 n4, .int .i64 n5, .int .i64 n6, .bool n7] 33) (.cells #[.int .i64 0, .int .i64 0, .int .i64 0, .int .i64 0, .int .i64 0, .int .i64 0, .int .i64 0, .bool false, .int .i64 0, .int .i64 0, .int .i64 0, .slice none 0 0, .bool false, .int .i64 0] 129))
  have HM := Lib.hid ((Below.heap_alloc (w.alloc (.cells #[.int .i64 n0, .int .i64 n1, .int .i64 n2, .int .i64 n3, .int .i64 n4, .int .i64 n5, .int .i64 n6, .bool n7] 33)) (.cells #[.int .i64 0, .int .i64 0, .int .i64 0, .int .i64 0, .int .i64 0, .int .i64 0, .int .i64 0, .bool false, .int .i64 0, .int .i64 0, .int .i64 0, .slice none 0 0, .bool false, .int .i64 0] 129) w.heap.size (by simp)).trans (heap_alloc_new w (.cells #[.int .i64 n0, .int .i64 n1, .int .i64 n2, .int .i64 n3, .int .i64 n4, .int .i64 n5, .int .i64 n6, .bool n7] 33)))
  have HB := Lib.hid (((Below.refl w.heap.size w).alloc (Nat.le_refl _) (.cells #[.int .i64 n0, .int .i64 n1, .int .i64 n2, .int .i64 n3, .int .i64 n4, .int .i64 n5, .int .i64 n6, .bool n7] 33)).alloc (by simp) (.cells #[.int .i64 0, .int .i64 0, .int .i64 0, .int .i64 0, .int .i64 0, .int .i64 0, .int .i64 0, .bool false, .int .i64 0, .int .i64 0, .int .i64 0, .slice none 0 0, .bool false, .int .i64 0] 129))
  go_enter Try.func85, Try.ntmps85
  go_wp2_with fail
  refine (HN _).out.mono ?_
  rintro e w1 ⟨rfl, h1⟩
  have HX1 := Lib.hid ((h1.block (w.heap.size + 1) (by simp)).trans HX.out)
  have HM1 := Lib.hid ((h1.block w.heap.size (by simp; omega)).trans HM.out)
  have HB1 := Lib.hid (HB.out.trans (h1.mono (by simp; omega)))
  have s1 : w.heap.size + 1 < w1.heap.size := heap_lt HX1.out
  clear h1 HX HM HB
  cases vn
  · go_wp2_with (refine wpList_put_row rfl 129 (.tmp 4) (.tmp 13) rfl rfl (w.heap.size + 1) #[.int .i64 0, .int .i64 0, .int .i64 0, .int .i64 0, .int .i64 0, .int .i64 0, .int .i64 0, .bool false, .int .i64 0, .int .i64 0, .int .i64 0, .slice none 0 0, .bool false, .int .i64 1] rfl rfl 129 _ HX1.out (by kernel_rfl) rfl rfl ?_; intro w2 hR hO; have HR := Lib.hid hR; have HO := Lib.hid hO; clear hR hO)
    exact bodyPost_ret (results_cell_row (p := 4) (ty := 129) (by kernel_rfl) _ _ (w.heap.size + 1) 129 _ (0, 0) _ rfl HR.out Try.underlying129 rfl (by kernel_rfl)) rfl ⟨by rw [← HV.out]; rfl, HO.out.below HB1.out (by omega) (by omega)⟩
  cases va
  · go_wp2_with (first
      | (go_at_call 48; refine (HA _).out.mono ?_; rintro e w' ⟨rfl, rfl⟩)
      | (refine wpList_put_row rfl 129 (.tmp 4) (.tmp 13) rfl rfl (w.heap.size + 1) #[.int .i64 0, .int .i64 0, .int .i64 0, .int .i64 0, .int .i64 0, .int .i64 0, .int .i64 0, .bool false, .int .i64 0, .int .i64 0, .int .i64 0, .slice none 0 0, .bool false, .int .i64 1] rfl rfl 129 _ HX1.out (by kernel_rfl) rfl rfl ?_; intro w2 hR hO; have HR := Lib.hid hR; have HO := Lib.hid hO; clear hR hO))
    exact bodyPost_ret (results_cell_row (p := 4) (ty := 129) (by kernel_rfl) _ _ (w.heap.size + 1) 129 _ (0, 0) _ rfl HR.out Try.underlying129 rfl (by kernel_rfl)) rfl ⟨by rw [← HV.out]; rfl, HO.out.below HB1.out (by omega) (by omega)⟩
  · go_wp2_with (first
      | (go_at_call 48; refine (HA _).out.mono ?_; rintro e w' ⟨rfl, rfl⟩)
      | (refine wpList_load_row rfl 33 (.tmp 2) rfl w.heap.size rfl 33 _ (0, 0) _ HM1.out Try.underlying33 rfl (by kernel_rfl) ?_)
      | (go_at_call 131; refine (HF _).out.mono ?_; rintro e w2 ⟨rfl, h2⟩; have HX2 := Lib.hid ((h2.block _ s1).trans HX1.out); have HB2 := Lib.hid (HB1.out.trans (h2.mono (by omega))); have s2 : w.heap.size + 1 < w2.heap.size := heap_lt HX2.out; clear h2)
      | (refine wpList_put_row rfl 129 (.tmp 4) (.tmp 17) rfl rfl (w.heap.size + 1) #[.int .i64 n0, .int .i64 n1, .int .i64 n2, .int .i64 n3, .int .i64 n4, .int .i64 n5, .int .i64 n6, .bool n7, .int .i64 want, .int .i64 1, .int .i64 250, .slice none 0 0, .bool true, .int .i64 0] rfl rfl 129 _ HX2.out (by kernel_rfl) rfl rfl ?_; intro w3 hR hO; have HR := Lib.hid hR; have HO := Lib.hid hO; clear hR hO))
    exact bodyPost_ret (results_cell_row (p := 4) (ty := 129) (by kernel_rfl) _ _ (w.heap.size + 1) 129 _ (0, 0) _ rfl HR.out Try.underlying129 rfl (by kernel_rfl)) rfl ⟨by rw [← HV.out]; rfl, HO.out.below HB2.out (by omega) (by omega)⟩
end Go.Proofs.Ytpolpkheaibonaa
