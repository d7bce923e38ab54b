/- What the laws draw for a claim that is new. Nothing that was there is written. -/
import Derived.Test.YtdhmcepnmbchkaaDrawClaimH
namespace Go.Proofs.Ytdhmcepnmbchkaa
open Go.RowKit
set_option linter.unusedVariables false
section
variable {w : World} {a : Option Addr} {len cap : Nat} {zs : List Int}
set_option maxRecDepth 100000 in
set_option maxHeartbeats 40000000 in
theorem drawClaimNew_any (hr : RowIn w a len zs) (hlen : len ≤ 1048576) (hba : 0 < len → ∀ b o, a = some ⟨b, o, none⟩ → b < w.heap.size) :
    Calls Try.prog 13 #[.slice a len cap] w fun e w' => ∃ (m : Nm) (x : Int), e = .returned (.tuple #[nmV m, .int .i64 x]) ∧ Below w.heap.size w w' := by
  have HR0 := Lib.hid hr
  have HBA := Lib.hid hba
  clear hr hba
  go_enter Try.func13, Try.ntmps13
  go_wp2_with (first
    | (refine wpList_alloc_h rfl 24 rfl (.agg #[.int .i64 0, .int .i64 0, .int .i64 0, .int .i64 0, .int .i64 0, .int .i64 0, .int .i64 0, .bool false]) (by kernel_rfl) #[.int .i64 0, .int .i64 0, .int .i64 0, .int .i64 0, .int .i64 0, .int .i64 0, .int .i64 0, .bool false] rfl ?_; intro w1 R1 e1 g1 b1; have HL1 := Lib.hid (show Lg w w1 [(R1, #[.int .i64 0, .int .i64 0, .int .i64 0, .int .i64 0, .int .i64 0, .int .i64 0, .int .i64 0, .bool false], 24)] [] from (Lg.first w).box e1 g1 b1); clear g1 b1 e1))
  have HS := Lib.hid (source_next (cap := cap) (HR0.out.kept HL1.out.below HBA.out) hlen (fun p b o e => Nat.lt_of_lt_of_le (HBA.out p b o e) HL1.out.below.size))
  refine HS.out.mono ?_
  rintro e u0 ⟨rfl, h0⟩
  obtain ⟨S, eS⟩ : ∃ S, w1.heap.size = S := ⟨_, rfl⟩
  obtain ⟨Ra, eRa⟩ :  ∃ R, R1 = R := ⟨_, rfl⟩
  have hd0 : Dr w S a len cap zs u0 := by rw [← eS]; exact h0.base HL1.out.below HBA.out
  have hra : Ra < S ∧ w.heap.size ≤ Ra ∧ u0.heap[Ra]? = some (.cells #[.int .i64 0, .int .i64 0, .int .i64 0, .int .i64 0, .int .i64 0, .int .i64 0, .int .i64 0, .bool false] 24) := by
    rw [← eRa, ← eS]
    exact ⟨HL1.out.lt (.head _), HL1.out.ge (.head _), (h0.below.block _ (HL1.out.lt (.head _))).trans (HL1.out.get (.head _))⟩
  rw [eS, eRa]
  have HRA := Lib.hid hra
  clear HL1 eS eRa h0 HS hra HR0
  go_wp2_with fail
  refine (name_next hd0).mono ?_
  rintro e u2 ⟨⟨m0, m1, m2, m3, m4, m5, m6, m7⟩, rfl, hd2, hg2⟩
  have hS0 := hd0.src.lt
  have qa2 := (hg2.block Ra (Nat.lt_trans HRA.out.1 hS0) (by have := HRA.out.1; simp; omega)).trans HRA.out.2.2
  obtain ⟨lo, elo⟩ : ∃ x, u2.heap.size = x := ⟨_, rfl⟩
  have hS2 := hd2.src.lt
  have HC3 := Lib.hid (show RC w S a len cap zs Ra Ra (.cells #[.int .i64 0, .int .i64 0, .int .i64 0, .int .i64 0, .int .i64 0, .int .i64 0, .int .i64 0, .bool false] 24) (.cells #[.int .i64 m0, .int .i64 m1, .int .i64 m2, .int .i64 m3, .int .i64 m4, .int .i64 m5, .int .i64 m6, .bool m7] 24) (.cells #[.int .i64 0, .int .i64 0, .int .i64 0, .int .i64 0, .int .i64 0, .int .i64 0, .int .i64 0, .bool false] 24) (.cells #[.int .i64 m0, .int .i64 m1, .int .i64 m2, .int .i64 m3, .int .i64 m4, .int .i64 m5, .int .i64 m6, .bool m7] 24) [] lo lo (fun _ => True) u2 from ⟨hd2, .inl qa2, .inl qa2, (fun r hr => nomatch hr), (fun _ _ _ => trivial), ⟨by rw [← elo]; exact hS2, Nat.le_of_eq elo.symm⟩, ⟨⟨HRA.out.1, HRA.out.1⟩, HRA.out.2.1, HRA.out.2.1⟩, fun _ => rfl⟩)
  clear hd0 hd2 hg2 hS0 qa2 elo HRA
  unfold nmV
  dsimp only
  go_wp2_with (first
    | (refine wpList_alloc_h rfl 24 rfl (.agg #[.int .i64 0, .int .i64 0, .int .i64 0, .int .i64 0, .int .i64 0, .int .i64 0, .int .i64 0, .bool false]) (by kernel_rfl) #[.int .i64 0, .int .i64 0, .int .i64 0, .int .i64 0, .int .i64 0, .int .i64 0, .int .i64 0, .bool false] rfl ?_; intro w1 dR1 e1 g1 b1; have HL1 := Lib.hid (show Lg u2 w1 [(dR1, #[.int .i64 0, .int .i64 0, .int .i64 0, .int .i64 0, .int .i64 0, .int .i64 0, .int .i64 0, .bool false], 24)] [] from (Lg.first u2).box e1 g1 b1); clear g1 b1 e1)
    | (refine wpList_put_at rfl 24 (.tmp 5) (.tmp 9) rfl rfl (dR1) 0 rfl (.agg #[.int .i64 m0, .int .i64 m1, .int .i64 m2, .int .i64 m3, .int .i64 m4, .int .i64 m5, .int .i64 m6, .bool m7]) rfl #[.int .i64 m0, .int .i64 m1, .int .i64 m2, .int .i64 m3, .int .i64 m4, .int .i64 m5, .int .i64 m6, .bool m7] rfl 24 #[.int .i64 0, .int .i64 0, .int .i64 0, .int .i64 0, .int .i64 0, .int .i64 0, .int .i64 0, .bool false] #[.int .i64 m0, .int .i64 m1, .int .i64 m2, .int .i64 m3, .int .i64 m4, .int .i64 m5, .int .i64 m6, .bool m7] (HL1.out.get (.head _)) (by kernel_rfl) (by kernel_rfl) (by kernel_rfl) (by kernel_rfl) ?_; intro w2 g2 o2; have HL2 := Lib.hid (show Lg u2 w2 [(dR1, #[.int .i64 m0, .int .i64 m1, .int .i64 m2, .int .i64 m3, .int .i64 m4, .int .i64 m5, .int .i64 m6, .bool m7], 24)] [] from HL1.out.put 0 rfl g2 o2 (fun _ h => nomatch h) (fun _ h => nomatch h) rfl); clear g2 o2))
  have HC4 := Lib.hid ((HC3.out.below HL2.out.below).addRow (HL2.out.get (.head _)) (Nat.lt_of_lt_of_le hS2 (HL2.out.ge (.head _))))
  obtain ⟨R7, eR7⟩ : ∃ R, dR1 = R := ⟨_, rfl⟩
  obtain ⟨v4, ev4⟩ : ∃ v, w2 = v := ⟨_, rfl⟩
  rw [eR7, ev4] at HC4
  rw [eR7, ev4]
  clear HL1 HL2 HC3 hS2 eR7 ev4
  go_wp2_with fail
  refine (one_next HC4.out.dr 6 (by omega)).mono ?_
  rintro e u3 ⟨y, rfl, hd3, hg3⟩
  have HC := Lib.hid (HC4.out.go hd3 hg3)
  clear hd3 hg3 HC4
  cases y
  · go_wp2_with fail
    refine wp_region_anyord (RC w S a len cap zs Ra Ra (.cells #[.int .i64 0, .int .i64 0, .int .i64 0, .int .i64 0, .int .i64 0, .int .i64 0, .int .i64 0, .bool false] 24) (.cells #[.int .i64 m0, .int .i64 m1, .int .i64 m2, .int .i64 m3, .int .i64 m4, .int .i64 m5, .int .i64 m6, .bool m7] 24) (.cells #[.int .i64 0, .int .i64 0, .int .i64 0, .int .i64 0, .int .i64 0, .int .i64 0, .int .i64 0, .bool false] 24) (.cells #[.int .i64 m0, .int .i64 m1, .int .i64 m2, .int .i64 m3, .int .i64 m4, .int .i64 m5, .int .i64 m6, .bool m7] 24) [(R7, .cells #[.int .i64 m0, .int .i64 m1, .int .i64 m2, .int .i64 m3, .int .i64 m4, .int .i64 m5, .int .i64 m6, .bool m7] 24)] lo lo (fun _ => True)) (RR S Ra Ra (.cells #[.int .i64 m0, .int .i64 m1, .int .i64 m2, .int .i64 m3, .int .i64 m4, .int .i64 m5, .int .i64 m6, .bool m7] 24) (.cells #[.int .i64 m0, .int .i64 m1, .int .i64 m2, .int .i64 m3, .int .i64 m4, .int .i64 m5, .int .i64 m6, .bool m7] 24)) (TN5 S R7 Ra Ra (.cells #[.int .i64 m0, .int .i64 m1, .int .i64 m2, .int .i64 m3, .int .i64 m4, .int .i64 m5, .int .i64 m6, .bool m7] 24) (.cells #[.int .i64 m0, .int .i64 m1, .int .i64 m2, .int .i64 m3, .int .i64 m4, .int .i64 m5, .int .i64 m6, .bool m7] 24) (.agg #[.int .i64 m0, .int .i64 m1, .int .i64 m2, .int .i64 m3, .int .i64 m4, .int .i64 m5, .int .i64 m6, .bool m7]) (.agg #[.int .i64 m0, .int .i64 m1, .int .i64 m2, .int .i64 m3, .int .i64 m4, .int .i64 m5, .int .i64 m6, .bool m7])) (by kernel_rfl) (by kernel_rfl) (by kernel_rfl) TN5.kept ?_ ?_ ?_
    · exact HC.out.below (Below.refl _ _).drew
    · refine ⟨⟨rfl, fun a1 W hC hK => ?_⟩, ⟨rfl, fun a1 W hC hK => ?_⟩, ⟨rfl, fun a1 W hC hK => ?_⟩, ⟨rfl, fun a1 W hC hK => ?_⟩, ⟨rfl, fun a1 W hC hK => ?_⟩, trivial⟩
      · have e1 : a1.eval (.tmp 5) = .pointer (some ⟨R7, 0, none⟩) := (hK.old 5 (by kernel_rfl)).trans rfl
        exact ob_load_row 24 (.tmp 5) rfl R7 e1 24 [.int .i64 m0, .int .i64 m1, .int .i64 m2, .int .i64 m3, .int .i64 m4, .int .i64 m5, .int .i64 m6, .bool m7] (hC.rows _ (.head _)).2 _ Try.underlying24 rfl (by kernel_rfl) ⟨_, rfl, hC, RR.refl, rfl⟩
      · exact ob_move rfl ⟨_, rfl, hC, RR.refl, (hK.old 4 (by kernel_rfl)).trans rfl⟩
      · have e1 : a1.eval (.tmp 19) = .pointer (some ⟨S, 0, none⟩) := hK.get 1 19 (by kernel_rfl) rfl rfl rfl
        refine ob_call rfl Try.func56 (by kernel_rfl) (by kernel_rfl) (vals := #[.pointer (some ⟨S, 0, none⟩), .int .i64 9]) (by simp [e1, BigFrame.eval_const]) ?_
        refine (n_next hC.dr 9 (by omega)).mono ?_
        rintro e W' ⟨v, rfl, v0, vm, hd, hg⟩
        exact ⟨_, rfl, _, rfl, hC.go hd hg, hC.rr hg, v, rfl⟩
      · have e1 : a1.eval (.tmp 2) = .pointer (some ⟨Ra, 0, none⟩) := (hK.old 2 (by kernel_rfl)).trans rfl
        have e2 : a1.eval (.tmp 18) = .agg #[.int .i64 m0, .int .i64 m1, .int .i64 m2, .int .i64 m3, .int .i64 m4, .int .i64 m5, .int .i64 m6, .bool m7] := hK.get 0 18 (by kernel_rfl) rfl rfl rfl
        rcases hC.ra with q | q
        · exact ob_put_all 24 (.tmp 2) (.tmp 18) rfl Ra e1 (.agg #[.int .i64 m0, .int .i64 m1, .int .i64 m2, .int .i64 m3, .int .i64 m4, .int .i64 m5, .int .i64 m6, .bool m7]) e2 #[.int .i64 m0, .int .i64 m1, .int .i64 m2, .int .i64 m3, .int .i64 m4, .int .i64 m5, .int .i64 m6, .bool m7] rfl 24 _ #[.int .i64 m0, .int .i64 m1, .int .i64 m2, .int .i64 m3, .int .i64 m4, .int .i64 m5, .int .i64 m6, .bool m7] q (by kernel_rfl) (by kernel_rfl) (by kernel_rfl) (by kernel_rfl) (fun w' g1 o1 => ⟨_, rfl, (hC.put (.inl ⟨rfl, rfl⟩) g1 o1).1, (hC.put (.inl ⟨rfl, rfl⟩) g1 o1).2, g1⟩)
        · exact ob_put_all 24 (.tmp 2) (.tmp 18) rfl Ra e1 (.agg #[.int .i64 m0, .int .i64 m1, .int .i64 m2, .int .i64 m3, .int .i64 m4, .int .i64 m5, .int .i64 m6, .bool m7]) e2 #[.int .i64 m0, .int .i64 m1, .int .i64 m2, .int .i64 m3, .int .i64 m4, .int .i64 m5, .int .i64 m6, .bool m7] rfl 24 _ #[.int .i64 m0, .int .i64 m1, .int .i64 m2, .int .i64 m3, .int .i64 m4, .int .i64 m5, .int .i64 m6, .bool m7] q (by kernel_rfl) (by kernel_rfl) (by kernel_rfl) (by kernel_rfl) (fun w' g1 o1 => ⟨_, rfl, (hC.put (.inl ⟨rfl, rfl⟩) g1 o1).1, (hC.put (.inl ⟨rfl, rfl⟩) g1 o1).2, g1⟩)
      · exact ob_value (BigFrame.run_assign _ rfl W) ⟨_, rfl, hC, RR.refl, hK.get 2 20 (by kernel_rfl) rfl rfl rfl⟩
    · intro vs W hC hT
      obtain ⟨x, ex⟩ : ∃ x : Int, vs 4 = .int .i64 x := hT 4 (by decide)
      have qa : W.heap[Ra]? = some (.cells #[.int .i64 m0, .int .i64 m1, .int .i64 m2, .int .i64 m3, .int .i64 m4, .int .i64 m5, .int .i64 m6, .bool m7] 24) := hT 3 (by decide)
      simp only [fillL, if_true, Act.put, List.setIfInBounds_toArray, List.set_cons_zero, List.set_cons_succ, ex]
      have a0 := cell_of_row W Ra 0 _ _ (0, 0) qa
      have a1 := cell_of_row W Ra 1 _ _ (0, 0) qa
      have a2 := cell_of_row W Ra 2 _ _ (0, 0) qa
      have a3 := cell_of_row W Ra 3 _ _ (0, 0) qa
      have a4 := cell_of_row W Ra 4 _ _ (0, 0) qa
      have a5 := cell_of_row W Ra 5 _ _ (0, 0) qa
      have a6 := cell_of_row W Ra 6 _ _ (0, 0) qa
      have a7 := cell_of_row W Ra 7 _ _ (0, 0) qa
      simp only [List.getElem?_toArray, List.getElem?_cons_zero, List.getElem?_cons_succ] at a0 a1 a2 a3 a4 a5 a6 a7
      have HB := Lib.hid hC.dr.below
      clear hC hT ex qa
      go_wp2_with fail
      exact bodyPost_ret (v := .tuple #[.agg #[.int .i64 m0, .int .i64 m1, .int .i64 m2, .int .i64 m3, .int .i64 m4, .int .i64 m5, .int .i64 m6, .bool m7], .int .i64 x]) (by simp [results, Try.results13, go_sem, a0, a1, a2, a3, a4, a5, a6, a7]) rfl ⟨⟨m0, m1, m2, m3, m4, m5, m6, m7⟩, x, rfl, HB.out⟩
  · go_wp2_with fail
    refine wp_region_anyord (RC w S a len cap zs Ra Ra (.cells #[.int .i64 0, .int .i64 0, .int .i64 0, .int .i64 0, .int .i64 0, .int .i64 0, .int .i64 0, .bool false] 24) (.cells #[.int .i64 m0, .int .i64 m1, .int .i64 m2, .int .i64 m3, .int .i64 m4, .int .i64 m5, .int .i64 m6, .bool m7] 24) (.cells #[.int .i64 0, .int .i64 0, .int .i64 0, .int .i64 0, .int .i64 0, .int .i64 0, .int .i64 0, .bool false] 24) (.cells #[.int .i64 m0, .int .i64 m1, .int .i64 m2, .int .i64 m3, .int .i64 m4, .int .i64 m5, .int .i64 m6, .bool m7] 24) [(R7, .cells #[.int .i64 m0, .int .i64 m1, .int .i64 m2, .int .i64 m3, .int .i64 m4, .int .i64 m5, .int .i64 m6, .bool m7] 24)] lo lo (fun _ => True)) (RR S Ra Ra (.cells #[.int .i64 m0, .int .i64 m1, .int .i64 m2, .int .i64 m3, .int .i64 m4, .int .i64 m5, .int .i64 m6, .bool m7] 24) (.cells #[.int .i64 m0, .int .i64 m1, .int .i64 m2, .int .i64 m3, .int .i64 m4, .int .i64 m5, .int .i64 m6, .bool m7] 24)) (TN4 S R7 Ra Ra (.cells #[.int .i64 m0, .int .i64 m1, .int .i64 m2, .int .i64 m3, .int .i64 m4, .int .i64 m5, .int .i64 m6, .bool m7] 24) (.cells #[.int .i64 m0, .int .i64 m1, .int .i64 m2, .int .i64 m3, .int .i64 m4, .int .i64 m5, .int .i64 m6, .bool m7] 24) (.agg #[.int .i64 m0, .int .i64 m1, .int .i64 m2, .int .i64 m3, .int .i64 m4, .int .i64 m5, .int .i64 m6, .bool m7]) (.agg #[.int .i64 m0, .int .i64 m1, .int .i64 m2, .int .i64 m3, .int .i64 m4, .int .i64 m5, .int .i64 m6, .bool m7])) (by kernel_rfl) (by kernel_rfl) (by kernel_rfl) TN4.kept ?_ ?_ ?_
    · exact HC.out.below (Below.refl _ _).drew
    · refine ⟨⟨rfl, fun a1 W hC hK => ?_⟩, ⟨rfl, fun a1 W hC hK => ?_⟩, ⟨rfl, fun a1 W hC hK => ?_⟩, ⟨rfl, fun a1 W hC hK => ?_⟩, ⟨rfl, fun a1 W hC hK => ?_⟩, ⟨rfl, fun a1 W hC hK => ?_⟩, ⟨rfl, fun a1 W hC hK => ?_⟩, ⟨rfl, fun a1 W hC hK => ?_⟩, trivial⟩
      · have e1 : a1.eval (.tmp 5) = .pointer (some ⟨R7, 0, none⟩) := (hK.old 5 (by kernel_rfl)).trans rfl
        exact ob_load_row 24 (.tmp 5) rfl R7 e1 24 [.int .i64 m0, .int .i64 m1, .int .i64 m2, .int .i64 m3, .int .i64 m4, .int .i64 m5, .int .i64 m6, .bool m7] (hC.rows _ (.head _)).2 _ Try.underlying24 rfl (by kernel_rfl) ⟨_, rfl, hC, RR.refl, rfl⟩
      · exact ob_value (v := .slice (some ⟨W.heap.size, 0, none⟩) 3 3) (w' := W.alloc (.cells #[.int .i64 (-1), .int .i64 251, .int .i64 252] 2)) (by simp [execOp, go_sem]) ⟨_, rfl, hC.go (hC.dr.alloc _) (World.grownBy_alloc _ _ _), hC.rr (World.grownBy_alloc _ _ _), W.heap.size, _, rfl, hC.dr.src.lt, heap_alloc_new W _, fun k hk => by
          match k, hk with
          | 0, _ => exact ⟨-1, rfl⟩
          | 1, _ => exact ⟨251, rfl⟩
          | 2, _ => exact ⟨252, rfl⟩⟩
      · exact ob_move rfl ⟨_, rfl, hC, RR.refl, (hK.old 4 (by kernel_rfl)).trans rfl⟩
      · have e1 : a1.eval (.tmp 14) = .pointer (some ⟨S, 0, none⟩) := hK.get 2 14 (by kernel_rfl) rfl rfl rfl
        refine ob_call rfl Try.func56 (by kernel_rfl) (by kernel_rfl) (vals := #[.pointer (some ⟨S, 0, none⟩), .int .i64 3]) (by simp [e1, BigFrame.eval_const]) ?_
        refine (n_next hC.dr 3 (by omega)).mono ?_
        rintro e W' ⟨v, rfl, v0, vm, hd, hg⟩
        exact ⟨_, rfl, _, rfl, hC.go hd hg, hC.rr hg, v.toNat, by rw [Int.toNat_of_nonneg v0], by omega⟩
      · have h9 : LitG S 3 W (a1.eval (.tmp 13)) := hK.get 1 13 (by kernel_rfl) rfl rfl rfl
        obtain ⟨k, e2, hk⟩ : ∃ k : Nat, a1.eval (.tmp 15) = .int .i64 (k : Int) ∧ k < 3 := hK.get 3 15 (by kernel_rfl) rfl rfl rfl
        obtain ⟨G, e1, hp⟩ := h9.pick hk
        have k0 : (0 : Int) ≤ (k : Int) := by omega
        have k1 : (k : Int) < 3 := by omega
        simp only [Act.eval, Array.getD_eq_getD_getElem?] at e1 e2
        exact ob_value (v := .pointer (some ⟨G, k, none⟩)) (w' := W) (by simp [execOp, go_sem, e1, e2, k0, k1]) ⟨_, rfl, hC, RR.refl, hp⟩
      · have h12 : PickG S W (a1.eval (.tmp 16)) := hK.get 4 16 (by kernel_rfl) rfl rfl rfl
        obtain ⟨p, x, e1, hcl⟩ := h12.cell
        simp only [Act.eval, Array.getD_eq_getD_getElem?] at e1
        exact ob_value (v := .int .i64 x) (w' := W) (by simp [execOp, go_sem, e1, hcl]) ⟨_, rfl, hC, RR.refl, x, rfl⟩
      · have e1 : a1.eval (.tmp 2) = .pointer (some ⟨Ra, 0, none⟩) := (hK.old 2 (by kernel_rfl)).trans rfl
        have e2 : a1.eval (.tmp 12) = .agg #[.int .i64 m0, .int .i64 m1, .int .i64 m2, .int .i64 m3, .int .i64 m4, .int .i64 m5, .int .i64 m6, .bool m7] := hK.get 0 12 (by kernel_rfl) rfl rfl rfl
        rcases hC.ra with q | q
        · exact ob_put_all 24 (.tmp 2) (.tmp 12) rfl Ra e1 (.agg #[.int .i64 m0, .int .i64 m1, .int .i64 m2, .int .i64 m3, .int .i64 m4, .int .i64 m5, .int .i64 m6, .bool m7]) e2 #[.int .i64 m0, .int .i64 m1, .int .i64 m2, .int .i64 m3, .int .i64 m4, .int .i64 m5, .int .i64 m6, .bool m7] rfl 24 _ #[.int .i64 m0, .int .i64 m1, .int .i64 m2, .int .i64 m3, .int .i64 m4, .int .i64 m5, .int .i64 m6, .bool m7] q (by kernel_rfl) (by kernel_rfl) (by kernel_rfl) (by kernel_rfl) (fun w' g1 o1 => ⟨_, rfl, (hC.put (.inl ⟨rfl, rfl⟩) g1 o1).1, (hC.put (.inl ⟨rfl, rfl⟩) g1 o1).2, g1⟩)
        · exact ob_put_all 24 (.tmp 2) (.tmp 12) rfl Ra e1 (.agg #[.int .i64 m0, .int .i64 m1, .int .i64 m2, .int .i64 m3, .int .i64 m4, .int .i64 m5, .int .i64 m6, .bool m7]) e2 #[.int .i64 m0, .int .i64 m1, .int .i64 m2, .int .i64 m3, .int .i64 m4, .int .i64 m5, .int .i64 m6, .bool m7] rfl 24 _ #[.int .i64 m0, .int .i64 m1, .int .i64 m2, .int .i64 m3, .int .i64 m4, .int .i64 m5, .int .i64 m6, .bool m7] q (by kernel_rfl) (by kernel_rfl) (by kernel_rfl) (by kernel_rfl) (fun w' g1 o1 => ⟨_, rfl, (hC.put (.inl ⟨rfl, rfl⟩) g1 o1).1, (hC.put (.inl ⟨rfl, rfl⟩) g1 o1).2, g1⟩)
      · exact ob_value (BigFrame.run_assign _ rfl W) ⟨_, rfl, hC, RR.refl, hK.get 5 17 (by kernel_rfl) rfl rfl rfl⟩
    · intro vs W hC hT
      obtain ⟨x, ex⟩ : ∃ x : Int, vs 7 = .int .i64 x := hT 7 (by decide)
      have qa : W.heap[Ra]? = some (.cells #[.int .i64 m0, .int .i64 m1, .int .i64 m2, .int .i64 m3, .int .i64 m4, .int .i64 m5, .int .i64 m6, .bool m7] 24) := hT 6 (by decide)
      simp only [fillL, if_true, Act.put, List.setIfInBounds_toArray, List.set_cons_zero, List.set_cons_succ, ex]
      have a0 := cell_of_row W Ra 0 _ _ (0, 0) qa
      have a1 := cell_of_row W Ra 1 _ _ (0, 0) qa
      have a2 := cell_of_row W Ra 2 _ _ (0, 0) qa
      have a3 := cell_of_row W Ra 3 _ _ (0, 0) qa
      have a4 := cell_of_row W Ra 4 _ _ (0, 0) qa
      have a5 := cell_of_row W Ra 5 _ _ (0, 0) qa
      have a6 := cell_of_row W Ra 6 _ _ (0, 0) qa
      have a7 := cell_of_row W Ra 7 _ _ (0, 0) qa
      simp only [List.getElem?_toArray, List.getElem?_cons_zero, List.getElem?_cons_succ] at a0 a1 a2 a3 a4 a5 a6 a7
      have HB := Lib.hid hC.dr.below
      clear hC hT ex qa
      go_wp2_with fail
      exact bodyPost_ret (v := .tuple #[.agg #[.int .i64 m0, .int .i64 m1, .int .i64 m2, .int .i64 m3, .int .i64 m4, .int .i64 m5, .int .i64 m6, .bool m7], .int .i64 x]) (by simp [results, Try.results13, go_sem, a0, a1, a2, a3, a4, a5, a6, a7]) rfl ⟨⟨m0, m1, m2, m3, m4, m5, m6, m7⟩, x, rfl, HB.out⟩
end
end Go.Proofs.Ytdhmcepnmbchkaa
