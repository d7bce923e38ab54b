/- What tells all others of a Claim: the model's and the program's. Nothing that was there is written. -/
import Derived.Test.YtdhmcepnmbchkaaClaimImpl
import Derived.Test.YtdhmcepnmbchkaaIds
import Derived.Test.YtdhmcepnmbchkaaPutRow
import Derived.Deep.RegionHeld3
namespace Go.Proofs.Ytdhmcepnmbchkaa
open Go.RowKit
set_option linter.unusedVariables false

/-- What ClaimCan answers. -/
def clCanV (c : Cl) : Value := if clB c = true then .agg #[.int .i64 (idN 6 60928 255 c.ad), .string ⟨(nmL c.n).toArray⟩] else .agg #[.int .i64 0, .string ⟨#[]⟩]
theorem clB_id {c : Cl} (h : clB c = true) : okB c.n = true ∧ idB 6 60928 255 c.ad = true := by
  obtain ⟨h0, _, _, h3⟩ := clB_of h
  refine ⟨h0, idB_to (by omega) ?_ (by omega) (.inr ⟨by decide, by decide, by omega, by omega⟩)⟩
  rcases stateB_of h3 with ⟨_, h, _⟩ | ⟨_, h, _⟩ | ⟨_, h, _⟩ <;> omega

set_option maxRecDepth 100000 in
set_option maxHeartbeats 4000000 in
theorem l05Can_any (n : Nm) (ad st lf : Int) (a : Option Addr) (N cap : Nat) (w : World) (ho : okB n = true) (hi : idB 6 60928 255 ad = true) :
    Calls Try.prog 71 #[clV n ad st lf (.slice a N cap)] w fun e w' => e = .returned (.agg #[.int .i64 (idN 6 60928 255 ad), .string ⟨(nmL n).toArray⟩]) ∧ Below w.heap.size w w' := by
  have HN := fun W => Lib.hid (l02Num_any 6 60928 255 ad W hi)
  have HB := fun W => Lib.hid (l04Bytes_any n W ho)
  clear ho hi
  generalize idN 6 60928 255 ad = q at *
  generalize ByteArray.mk (nmL n).toArray = s at *
  obtain ⟨n0, n1, n2, n3, n4, n5, n6, n7⟩ := n
  unfold clV
  unfold nmV at HB
  unfold idV at HN
  dsimp only at *
  have HW := Lib.hid (((Below.refl w.heap.size w).alloc (Nat.le_refl _) (.cells #[.int .i64 n0, .int .i64 n1, .int .i64 n2, .int .i64 n3, .int .i64 n4, .int .i64 n5, .int .i64 n6, .bool n7, .int .i64 ad, .int .i64 st, .int .i64 lf, .slice a N cap] 27)).alloc (by simp) (.cells #[.int .i64 0, .string ⟨#[]⟩] 40))
  have HZ := Lib.hid (heap_next w (.cells #[.int .i64 n0, .int .i64 n1, .int .i64 n2, .int .i64 n3, .int .i64 n4, .int .i64 n5, .int .i64 n6, .bool n7, .int .i64 ad, .int .i64 st, .int .i64 lf, .slice a N cap] 27) (.cells #[.int .i64 0, .string ⟨#[]⟩] 40))
  have HX := Lib.hid ((Below.heap_alloc (w.alloc (.cells #[.int .i64 n0, .int .i64 n1, .int .i64 n2, .int .i64 n3, .int .i64 n4, .int .i64 n5, .int .i64 n6, .bool n7, .int .i64 ad, .int .i64 st, .int .i64 lf, .slice a N cap] 27)) (.cells #[.int .i64 0, .string ⟨#[]⟩] 40) w.heap.size (by simp)).trans (heap_alloc_new w (.cells #[.int .i64 n0, .int .i64 n1, .int .i64 n2, .int .i64 n3, .int .i64 n4, .int .i64 n5, .int .i64 n6, .bool n7, .int .i64 ad, .int .i64 st, .int .i64 lf, .slice a N cap] 27)))
  go_enter Try.func71, Try.ntmps71
  go_wp2_with fail
  generalize (w.alloc (.cells #[.int .i64 n0, .int .i64 n1, .int .i64 n2, .int .i64 n3, .int .i64 n4, .int .i64 n5, .int .i64 n6, .bool n7, .int .i64 ad, .int .i64 st, .int .i64 lf, .slice a N cap] 27)).alloc (.cells #[.int .i64 0, .string ⟨#[]⟩] 40) = U at *
  have lz : w.heap.size + 1 < U.heap.size := heap_lt HZ.out
  have keep : ∀ W, Below (w.heap.size + 1) U W → (fun W => (W.cell? ⟨w.heap.size, 0, none⟩ = some (.int .i64 n0) ∧ W.cell? ⟨w.heap.size, 1, none⟩ = some (.int .i64 n1) ∧ W.cell? ⟨w.heap.size, 2, none⟩ = some (.int .i64 n2) ∧ W.cell? ⟨w.heap.size, 3, none⟩ = some (.int .i64 n3) ∧ W.cell? ⟨w.heap.size, 4, none⟩ = some (.int .i64 n4) ∧ W.cell? ⟨w.heap.size, 5, none⟩ = some (.int .i64 n5) ∧ W.cell? ⟨w.heap.size, 6, none⟩ = some (.int .i64 n6) ∧ W.cell? ⟨w.heap.size, 7, none⟩ = some (.bool n7) ∧ W.cell? ⟨w.heap.size, 8, none⟩ = some (.int .i64 ad)) ∧ Below (w.heap.size + 1) U W) W := fun W hW => by
    have hX := (hW.block w.heap.size (by omega)).trans HX.out
    refine ⟨⟨?_, ?_, ?_, ?_, ?_, ?_, ?_, ?_, ?_⟩, hW⟩ <;> (rw [cell_of_row W w.heap.size _ _ _ (0, 0) hX]; rfl)
  have HK := Lib.hid keep
  clear keep
  go_region_held3 (fun W => (W.cell? ⟨w.heap.size, 0, none⟩ = some (.int .i64 n0) ∧ W.cell? ⟨w.heap.size, 1, none⟩ = some (.int .i64 n1) ∧ W.cell? ⟨w.heap.size, 2, none⟩ = some (.int .i64 n2) ∧ W.cell? ⟨w.heap.size, 3, none⟩ = some (.int .i64 n3) ∧ W.cell? ⟨w.heap.size, 4, none⟩ = some (.int .i64 n4) ∧ W.cell? ⟨w.heap.size, 5, none⟩ = some (.int .i64 n5) ∧ W.cell? ⟨w.heap.size, 6, none⟩ = some (.int .i64 n6) ∧ W.cell? ⟨w.heap.size, 7, none⟩ = some (.bool n7) ∧ W.cell? ⟨w.heap.size, 8, none⟩ = some (.int .i64 ad)) ∧ Below (w.heap.size + 1) U W)
    (first | with_reducible exact HK.out _ (Below.refl _ _).drew | with_reducible exact HK.out _ b1 | with_reducible exact HK.out _ b2 | with_reducible exact HK.out _ ((b2.setCell (p := ⟨w.heap.size + 1, 0, none⟩) (Nat.le_refl _) _).setCell (p := ⟨w.heap.size + 1, 1, none⟩) (Nat.le_refl _) _))
    (first
      | (go_at_call 120; refine (HN _).out.mono ?_; rintro e w1 ⟨rfl, h1⟩; have b1 : Below (w.heap.size + 1) U w1 := (Below.refl _ _).drew.trans (h1.mono (Nat.le_of_lt lz)))
      | (go_at_call 121; refine (HB _).out.mono ?_; rintro e w2 ⟨rfl, h2⟩; have b2 : Below (w.heap.size + 1) U w2 := b1.trans (h2.mono (Nat.le_trans (Nat.le_of_lt lz) b1.size)); have hZ := ((h2.block (w.heap.size + 1) (Nat.lt_of_lt_of_le lz h1.size)).trans (h1.block (w.heap.size + 1) lz)).trans HZ.out; have r0 := cell_of_row w2 (w.heap.size + 1) 0 _ _ (0, 0) hZ; have r1 := cell_of_row w2 (w.heap.size + 1) 1 _ _ (0, 0) hZ; have e0 := frozen_of_row w2 (w.heap.size + 1) 0 _ _ hZ; have e1 := frozen_of_row w2 (w.heap.size + 1) 1 _ _ hZ; simp only [List.getElem?_toArray, List.getElem?_cons_zero, List.getElem?_cons_succ] at r0 r1; clear hZ))
  go_wp2
  exact bodyPost_ret (v := .agg #[.int .i64 q, .string s]) (by simp [results, Try.results71, go_sem, r0, r1]) rfl ⟨rfl, ((HW.out.trans (b2.mono (by omega))).setCell (p := ⟨w.heap.size + 1, 0, none⟩) (by simp) _).setCell (p := ⟨w.heap.size + 1, 1, none⟩) (by simp) _⟩
set_option maxRecDepth 100000 in
set_option maxHeartbeats 4000000 in
theorem specClaimCan_any (n : Nm) (ad st lf : Int) (a : Option Addr) (cap : Nat) (l : List Int) (w : World) (h : NumsIn w a l) (hlen : l.length ≤ 1048576) :
    Calls Try.prog 23 #[clV n ad st lf (.slice a l.length cap)] w fun e w' => e = .returned (clCanV ⟨n, ad, st, lf, l⟩) ∧ Below w.heap.size w w' := by
  have HC := fun W hW => Lib.hid (specClaimRight_any n ad st lf a cap l W hW hlen)
  have HI := Lib.hid h
  clear h
  rcases hcl : clB ⟨n, ad, st, lf, l⟩
  · have HV := Lib.hid (show clCanV ⟨n, ad, st, lf, l⟩ = .agg #[.int .i64 0, .string ⟨#[]⟩] by unfold clCanV; rw [hcl]; rfl)
    rw [hcl] at HC
    clear hcl hlen
    generalize clCanV ⟨n, ad, st, lf, l⟩ = V at *
    generalize l.length = N at *
    obtain ⟨n0, n1, n2, n3, n4, n5, n6, n7⟩ := n
    unfold clV at *
    dsimp only at *
    have HW := Lib.hid (((Below.refl w.heap.size w).alloc (Nat.le_refl _) (.cells #[.int .i64 n0, .int .i64 n1, .int .i64 n2, .int .i64 n3, .int .i64 n4, .int .i64 n5, .int .i64 n6, .bool n7, .int .i64 ad, .int .i64 st, .int .i64 lf, .slice a N cap] 27)).alloc (by simp) (.cells #[.int .i64 0, .string ⟨#[]⟩] 40))
    have HZ := Lib.hid (heap_next w (.cells #[.int .i64 n0, .int .i64 n1, .int .i64 n2, .int .i64 n3, .int .i64 n4, .int .i64 n5, .int .i64 n6, .bool n7, .int .i64 ad, .int .i64 st, .int .i64 lf, .slice a N cap] 27) (.cells #[.int .i64 0, .string ⟨#[]⟩] 40))
    go_enter Try.func23, Try.ntmps23
    go_wp2_with fail
    refine (HC _ (HI.out.kept HW.out)).out.mono ?_
    rintro e w1 ⟨rfl, h1⟩
    have HZ1 := Lib.hid ((h1.block (w.heap.size + 1) (by simp)).trans HZ.out)
    have HW1 := Lib.hid (HW.out.trans (h1.mono (by simp; omega)))
    have s1 : w.heap.size + 1 < w1.heap.size := heap_lt HZ1.out
    clear h1 HZ HW
    go_wp2_with (refine wpList_put_row rfl 40 (.tmp 2) (.tmp 6) rfl rfl (w.heap.size + 1) #[.int .i64 0, .string ⟨#[]⟩] rfl rfl 40 _ HZ1.out (by kernel_rfl) rfl rfl ?_; intro w9 hR hO; have HR := Lib.hid hR; have HO := Lib.hid hO; clear hR hO)
    exact bodyPost_ret (results_cell_row (p := 2) (ty := 40) (by kernel_rfl) _ _ (w.heap.size + 1) 40 _ (0, 0) _ rfl HR.out Try.underlying40 rfl (by kernel_rfl)) rfl ⟨by rw [HV.out], HO.out.below HW1.out (by omega) (by omega)⟩
  obtain ⟨ho, hid⟩ := clB_id hcl
  have HV := Lib.hid (show clCanV ⟨n, ad, st, lf, l⟩ = .agg #[.int .i64 (idN 6 60928 255 ad), .string ⟨(nmL n).toArray⟩] by unfold clCanV; rw [hcl]; rfl)
  have HL := fun W => Lib.hid (l05Can_any n ad st lf a l.length cap W ho hid)
  rw [hcl] at HC
  clear hcl hlen ho hid
  generalize idN 6 60928 255 ad = q at *
  generalize ByteArray.mk (nmL n).toArray = s at *
  generalize clCanV ⟨n, ad, st, lf, l⟩ = V at *
  generalize l.length = N at *
  obtain ⟨n0, n1, n2, n3, n4, n5, n6, n7⟩ := n
  unfold clV at *
  dsimp only at *
  have HW := Lib.hid (((Below.refl w.heap.size w).alloc (Nat.le_refl _) (.cells #[.int .i64 n0, .int .i64 n1, .int .i64 n2, .int .i64 n3, .int .i64 n4, .int .i64 n5, .int .i64 n6, .bool n7, .int .i64 ad, .int .i64 st, .int .i64 lf, .slice a N cap] 27)).alloc (by simp) (.cells #[.int .i64 0, .string ⟨#[]⟩] 40))
  have HZ := Lib.hid (heap_next w (.cells #[.int .i64 n0, .int .i64 n1, .int .i64 n2, .int .i64 n3, .int .i64 n4, .int .i64 n5, .int .i64 n6, .bool n7, .int .i64 ad, .int .i64 st, .int .i64 lf, .slice a N cap] 27) (.cells #[.int .i64 0, .string ⟨#[]⟩] 40))
  have HX := Lib.hid ((Below.heap_alloc (w.alloc (.cells #[.int .i64 n0, .int .i64 n1, .int .i64 n2, .int .i64 n3, .int .i64 n4, .int .i64 n5, .int .i64 n6, .bool n7, .int .i64 ad, .int .i64 st, .int .i64 lf, .slice a N cap] 27)) (.cells #[.int .i64 0, .string ⟨#[]⟩] 40) w.heap.size (by simp)).trans (heap_alloc_new w (.cells #[.int .i64 n0, .int .i64 n1, .int .i64 n2, .int .i64 n3, .int .i64 n4, .int .i64 n5, .int .i64 n6, .bool n7, .int .i64 ad, .int .i64 st, .int .i64 lf, .slice a N cap] 27)))
  go_enter Try.func23, Try.ntmps23
  go_wp2_with fail
  refine (HC _ (HI.out.kept HW.out)).out.mono ?_
  rintro e w1 ⟨rfl, h1⟩
  have HZ1 := Lib.hid ((h1.block (w.heap.size + 1) (by simp)).trans HZ.out)
  have HX1 := Lib.hid ((h1.block w.heap.size (by simp; omega)).trans HX.out)
  have HW1 := Lib.hid (HW.out.trans (h1.mono (by simp; omega)))
  have s1 : w.heap.size + 1 < w1.heap.size := heap_lt HZ1.out
  clear h1 HZ HW HX HC
  go_wp2_with (first
    | (refine wpList_load_row rfl 27 (.tmp 1) rfl (w.heap.size) rfl 27 _ (0, 0) _ HX1.out Try.underlying27 rfl (by kernel_rfl) ?_)
    | (go_at_call 71; refine (HL _).out.mono ?_; rintro e w2 ⟨rfl, h2⟩; have HZ2 := Lib.hid ((h2.block _ s1).trans HZ1.out); have HW2 := Lib.hid (HW1.out.trans (h2.mono (by omega))); have s2 : w.heap.size + 1 < w2.heap.size := heap_lt HZ2.out; clear h2)
    | (refine wpList_put_row rfl 40 (.tmp 2) (.tmp 8) rfl rfl (w.heap.size + 1) #[.int .i64 q, .string s] rfl rfl 40 _ HZ2.out (by kernel_rfl) rfl rfl ?_; intro w9 hR hO; have HR := Lib.hid hR; have HO := Lib.hid hO; clear hR hO))
  exact bodyPost_ret (results_cell_row (p := 2) (ty := 40) (by kernel_rfl) _ _ (w.heap.size + 1) 40 _ (0, 0) _ rfl HR.out Try.underlying40 rfl (by kernel_rfl)) rfl ⟨by rw [HV.out], HO.out.below HW2.out (by omega) (by omega)⟩
set_option maxRecDepth 100000 in
set_option maxHeartbeats 4000000 in
theorem implClaimCan_any (n : Nm) (ad st lf : Int) (a : Option Addr) (cap : Nat) (l : List Int) (w : World) (h : NumsIn w a l) (hlen : l.length ≤ 1048576) :
    Calls Try.prog 22 #[clV n ad st lf (.slice a l.length cap)] w fun e w' => e = .returned (clCanV ⟨n, ad, st, lf, l⟩) ∧ Below w.heap.size w w' := by
  have HC := fun W hW => Lib.hid (implClaimRight_any n ad st lf a cap l W hW hlen)
  have HI := Lib.hid h
  clear h
  rcases hcl : clB ⟨n, ad, st, lf, l⟩
  · have HV := Lib.hid (show clCanV ⟨n, ad, st, lf, l⟩ = .agg #[.int .i64 0, .string ⟨#[]⟩] by unfold clCanV; rw [hcl]; rfl)
    rw [hcl] at HC
    clear hcl hlen
    generalize clCanV ⟨n, ad, st, lf, l⟩ = V at *
    generalize l.length = N at *
    obtain ⟨n0, n1, n2, n3, n4, n5, n6, n7⟩ := n
    unfold clV at *
    dsimp only at *
    have HW := Lib.hid (((Below.refl w.heap.size w).alloc (Nat.le_refl _) (.cells #[.int .i64 n0, .int .i64 n1, .int .i64 n2, .int .i64 n3, .int .i64 n4, .int .i64 n5, .int .i64 n6, .bool n7, .int .i64 ad, .int .i64 st, .int .i64 lf, .slice a N cap] 27)).alloc (by simp) (.cells #[.int .i64 0, .string ⟨#[]⟩] 40))
    have HZ := Lib.hid (heap_next w (.cells #[.int .i64 n0, .int .i64 n1, .int .i64 n2, .int .i64 n3, .int .i64 n4, .int .i64 n5, .int .i64 n6, .bool n7, .int .i64 ad, .int .i64 st, .int .i64 lf, .slice a N cap] 27) (.cells #[.int .i64 0, .string ⟨#[]⟩] 40))
    go_enter Try.func22, Try.ntmps22
    go_wp2_with fail
    refine (HC _ (HI.out.kept HW.out)).out.mono ?_
    rintro e w1 ⟨rfl, h1⟩
    have HZ1 := Lib.hid ((h1.block (w.heap.size + 1) (by simp)).trans HZ.out)
    have HW1 := Lib.hid (HW.out.trans (h1.mono (by simp; omega)))
    have s1 : w.heap.size + 1 < w1.heap.size := heap_lt HZ1.out
    clear h1 HZ HW
    go_wp2_with (refine wpList_put_row rfl 40 (.tmp 2) (.tmp 7) rfl rfl (w.heap.size + 1) #[.int .i64 0, .string ⟨#[]⟩] rfl rfl 40 _ HZ1.out (by kernel_rfl) rfl rfl ?_; intro w9 hR hO; have HR := Lib.hid hR; have HO := Lib.hid hO; clear hR hO)
    exact bodyPost_ret (results_cell_row (p := 2) (ty := 40) (by kernel_rfl) _ _ (w.heap.size + 1) 40 _ (0, 0) _ rfl HR.out Try.underlying40 rfl (by kernel_rfl)) rfl ⟨by rw [HV.out], HO.out.below HW1.out (by omega) (by omega)⟩
  obtain ⟨ho, hid⟩ := clB_id hcl
  have HV := Lib.hid (show clCanV ⟨n, ad, st, lf, l⟩ = .agg #[.int .i64 (idN 6 60928 255 ad), .string ⟨(nmL n).toArray⟩] by unfold clCanV; rw [hcl]; rfl)
  have HN := fun W => Lib.hid (implIdNum_any 6 60928 255 ad W)
  have HB := fun W => Lib.hid (implNameBytes_any n W)
  rw [show nmBytes n = nmL n by unfold nmBytes; rw [ho]; rfl] at HB
  rw [hcl] at HC
  clear hcl hlen ho hid
  generalize idN 6 60928 255 ad = q at *
  generalize ByteArray.mk (nmL n).toArray = s at *
  generalize clCanV ⟨n, ad, st, lf, l⟩ = V at *
  generalize l.length = N at *
  obtain ⟨n0, n1, n2, n3, n4, n5, n6, n7⟩ := n
  unfold clV at *
  unfold nmV at HB
  unfold idV at HN
  dsimp only at *
  have HW := Lib.hid (((Below.refl w.heap.size w).alloc (Nat.le_refl _) (.cells #[.int .i64 n0, .int .i64 n1, .int .i64 n2, .int .i64 n3, .int .i64 n4, .int .i64 n5, .int .i64 n6, .bool n7, .int .i64 ad, .int .i64 st, .int .i64 lf, .slice a N cap] 27)).alloc (by simp) (.cells #[.int .i64 0, .string ⟨#[]⟩] 40))
  have HZ := Lib.hid (heap_next w (.cells #[.int .i64 n0, .int .i64 n1, .int .i64 n2, .int .i64 n3, .int .i64 n4, .int .i64 n5, .int .i64 n6, .bool n7, .int .i64 ad, .int .i64 st, .int .i64 lf, .slice a N cap] 27) (.cells #[.int .i64 0, .string ⟨#[]⟩] 40))
  have HX := Lib.hid ((Below.heap_alloc (w.alloc (.cells #[.int .i64 n0, .int .i64 n1, .int .i64 n2, .int .i64 n3, .int .i64 n4, .int .i64 n5, .int .i64 n6, .bool n7, .int .i64 ad, .int .i64 st, .int .i64 lf, .slice a N cap] 27)) (.cells #[.int .i64 0, .string ⟨#[]⟩] 40) w.heap.size (by simp)).trans (heap_alloc_new w (.cells #[.int .i64 n0, .int .i64 n1, .int .i64 n2, .int .i64 n3, .int .i64 n4, .int .i64 n5, .int .i64 n6, .bool n7, .int .i64 ad, .int .i64 st, .int .i64 lf, .slice a N cap] 27)))
  go_enter Try.func22, Try.ntmps22
  go_wp2_with fail
  refine (HC _ (HI.out.kept HW.out)).out.mono ?_
  rintro e w1 ⟨rfl, h1⟩
  have HZ1 := Lib.hid ((h1.block (w.heap.size + 1) (by simp)).trans HZ.out)
  have HX1 := Lib.hid ((h1.block w.heap.size (by simp; omega)).trans HX.out)
  have HW1 := Lib.hid (HW.out.trans (h1.mono (by simp; omega)))
  have s1 : w.heap.size + 1 < w1.heap.size := heap_lt HZ1.out
  clear h1 HZ HW HX HC
  have c8 := cell_of_row w1 w.heap.size 8 _ _ (0, 0) HX1.out
  simp only [List.getElem?_toArray, List.getElem?_cons_zero, List.getElem?_cons_succ] at c8
  have HZ2 := Lib.hid ((Below.heap_alloc w1 (.cells #[.int .i64 6, .int .i64 60928, .int .i64 255, .int .i64 ad] 90) (w.heap.size + 1) s1).trans HZ1.out)
  have HX2 := Lib.hid ((Below.heap_alloc w1 (.cells #[.int .i64 6, .int .i64 60928, .int .i64 255, .int .i64 ad] 90) w.heap.size (by omega)).trans HX1.out)
  have HY2 := Lib.hid (heap_alloc_new w1 (.cells #[.int .i64 6, .int .i64 60928, .int .i64 255, .int .i64 ad] 90))
  have HW2 := Lib.hid (HW1.out.alloc HW1.out.size (.cells #[.int .i64 6, .int .i64 60928, .int .i64 255, .int .i64 ad] 90))
  clear HZ1 HX1 HW1
  go_wp2_with fail
  clear c8
  generalize w1.alloc (.cells #[.int .i64 6, .int .i64 60928, .int .i64 255, .int .i64 ad] 90) = U at *
  have lz : w.heap.size + 1 < U.heap.size := heap_lt HZ2.out
  have ly : w1.heap.size < U.heap.size := heap_lt HY2.out
  have keep : ∀ W, Out (w.heap.size + 1) (w.heap.size + 2) U W → (fun W => (W.cell? ⟨w.heap.size, 0, none⟩ = some (.int .i64 n0) ∧ W.cell? ⟨w.heap.size, 1, none⟩ = some (.int .i64 n1) ∧ W.cell? ⟨w.heap.size, 2, none⟩ = some (.int .i64 n2) ∧ W.cell? ⟨w.heap.size, 3, none⟩ = some (.int .i64 n3) ∧ W.cell? ⟨w.heap.size, 4, none⟩ = some (.int .i64 n4) ∧ W.cell? ⟨w.heap.size, 5, none⟩ = some (.int .i64 n5) ∧ W.cell? ⟨w.heap.size, 6, none⟩ = some (.int .i64 n6) ∧ W.cell? ⟨w.heap.size, 7, none⟩ = some (.bool n7) ∧ W.cell? ⟨w1.heap.size, 0, none⟩ = some (.int .i64 6) ∧ W.cell? ⟨w1.heap.size, 1, none⟩ = some (.int .i64 60928) ∧ W.cell? ⟨w1.heap.size, 2, none⟩ = some (.int .i64 255) ∧ W.cell? ⟨w1.heap.size, 3, none⟩ = some (.int .i64 ad)) ∧ Out (w.heap.size + 1) (w.heap.size + 2) U W) W := fun W hW => by
    have hX := (hW.block w.heap.size (by omega) (by omega)).trans HX2.out
    have hY := (hW.block w1.heap.size ly (by omega)).trans HY2.out
    refine ⟨⟨?_, ?_, ?_, ?_, ?_, ?_, ?_, ?_, ?_, ?_, ?_, ?_⟩, hW⟩ <;> first | (rw [cell_of_row W w.heap.size _ _ _ (0, 0) hX]; rfl) | (rw [cell_of_row W w1.heap.size _ _ _ (0, 0) hY]; rfl)
  have HK := Lib.hid keep
  have H0 := Lib.hid (Out.of_below (lo := w.heap.size + 1) (hi := w.heap.size + 2) ((Below.refl U.heap.size U).drew))
  clear keep
  go_region_held3 (fun W => (W.cell? ⟨w.heap.size, 0, none⟩ = some (.int .i64 n0) ∧ W.cell? ⟨w.heap.size, 1, none⟩ = some (.int .i64 n1) ∧ W.cell? ⟨w.heap.size, 2, none⟩ = some (.int .i64 n2) ∧ W.cell? ⟨w.heap.size, 3, none⟩ = some (.int .i64 n3) ∧ W.cell? ⟨w.heap.size, 4, none⟩ = some (.int .i64 n4) ∧ W.cell? ⟨w.heap.size, 5, none⟩ = some (.int .i64 n5) ∧ W.cell? ⟨w.heap.size, 6, none⟩ = some (.int .i64 n6) ∧ W.cell? ⟨w.heap.size, 7, none⟩ = some (.bool n7) ∧ W.cell? ⟨w1.heap.size, 0, none⟩ = some (.int .i64 6) ∧ W.cell? ⟨w1.heap.size, 1, none⟩ = some (.int .i64 60928) ∧ W.cell? ⟨w1.heap.size, 2, none⟩ = some (.int .i64 255) ∧ W.cell? ⟨w1.heap.size, 3, none⟩ = some (.int .i64 ad)) ∧ Out (w.heap.size + 1) (w.heap.size + 2) U W)
    (first | with_reducible exact HK.out _ H0.out | with_reducible exact HK.out _ b1 | with_reducible exact HK.out _ b2 | with_reducible exact HK.out _ ((b2.setCell (p := ⟨w.heap.size + 1, 0, none⟩) (Nat.le_refl _) (Nat.lt_succ_self _) _).setCell (p := ⟨w.heap.size + 1, 1, none⟩) (Nat.le_refl _) (Nat.lt_succ_self _) _))
    (first
      | (go_at_call 69; refine (HN _).out.mono ?_; rintro e w2 ⟨rfl, h1⟩; have b1 : Out (w.heap.size + 1) (w.heap.size + 2) U w2 := H0.out.trans (Out.of_below h1))
      | (go_at_call 70; refine (HB _).out.mono ?_; rintro e w3 ⟨rfl, h2⟩; have b2 : Out (w.heap.size + 1) (w.heap.size + 2) U w3 := b1.trans (Out.of_below h2); have hZ := ((h2.block (w.heap.size + 1) (Nat.lt_of_lt_of_le lz h1.size)).trans (h1.block (w.heap.size + 1) lz)).trans HZ2.out; have r0 := cell_of_row w3 (w.heap.size + 1) 0 _ _ (0, 0) hZ; have r1 := cell_of_row w3 (w.heap.size + 1) 1 _ _ (0, 0) hZ; have e0 := frozen_of_row w3 (w.heap.size + 1) 0 _ _ hZ; have e1 := frozen_of_row w3 (w.heap.size + 1) 1 _ _ hZ; simp only [List.getElem?_toArray, List.getElem?_cons_zero, List.getElem?_cons_succ] at r0 r1; clear hZ))
  have b4 := (b2.below HW2.out (by omega) (by omega))
  go_wp2
  exact bodyPost_ret (v := .agg #[.int .i64 q, .string s]) (by simp [results, Try.results22, go_sem, r0, r1]) rfl ⟨by rw [HV.out], (b4.setCell (p := ⟨w.heap.size + 1, 0, none⟩) (by simp) _).setCell (p := ⟨w.heap.size + 1, 1, none⟩) (by simp) _⟩
end Go.Proofs.Ytdhmcepnmbchkaa
