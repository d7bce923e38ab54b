/- The model's QueueTake and what it calls. Nothing that was there is written. -/
import Derived.Test.YtmfnbbjhaolhgaaQueueTake
namespace Go.Proofs.Ytmfnbbjhaolhgaa
open Go.RowKit Go.Joins
set_option linter.unusedVariables false

set_option maxRecDepth 100000 in
set_option maxHeartbeats 4000000 in
theorem l03Take_any (b o c : Nat) (q : List (Int × ByteArray)) (w : World) (h : CansIn w (some ⟨b, o, none⟩) q) (h0 : 0 < q.length) (hlen : q.length ≤ 16) (hcap : q.length ≤ c) :
    Calls Try.prog 49 #[.agg #[.slice (some ⟨b, o, none⟩) q.length c]] w (QOut w (q.take (takeAt q) ++ q.drop (takeAt q + 1)) (canAt q (takeAt q)).1 (canAt q (takeAt q)).2 0) := by
  have HB := Lib.hid (fun o o' : Obj => ((Below.refl w.heap.size w).alloc (Nat.le_refl _) o).alloc (by simp) o')
  obtain ⟨i0, hi, hz0, hz1, hz2⟩ := info_parts CansTo.info
  have HI := Lib.hid hi
  have hlt := takeAt_lt (q := q) (by omega)
  obtain ⟨b', o', he, hb, hc⟩ : ∃ b' o', (some ⟨b, o, none⟩ : Option Addr) = some ⟨b', o', none⟩ ∧ b' < w.heap.size ∧ ∀ (i : Nat) x, q[i]? = some x → w.cell? ⟨b', o' + i * 2, none⟩ = some (.int .i64 x.1) ∧ w.cell? ⟨b', o' + i * 2 + 1, none⟩ = some (.string x.2) := by
    rcases h with h | h
    · rw [h] at h0
      simp at h0
    · exact h
  simp only [Option.some.injEq, Addr.mk.injEq, and_true] at he
  obtain ⟨rfl, rfl⟩ := he
  have hq := hc _ _ (canAt_some hlt)
  have HFI := fun W (hW : ∀ (i : Nat) x, q[i]? = some x → W.cell? ⟨b, o + i * 2, none⟩ = some (.int .i64 x.1) ∧ W.cell? ⟨b, o + i * 2 + 1, none⟩ = some (.string x.2)) => Lib.hid (l02First_any b o c q W hW h0 (by omega))
  rw [show best q (q.length - 1) = takeAt q from rfl] at HFI
  have h1 := fun W => slice_head (P := Try.prog) W 23 29 Try.underlying23 Queue.sizeOf b o q.length c (takeAt q) (by omega)
  have h2 := fun W => slice_tail (P := Try.prog) W 23 29 Try.underlying23 Queue.sizeOf (some ⟨b, o, none⟩) q.length c (takeAt q + 1) (by omega)
  have HT := Lib.hid (h.take (takeAt q))
  have HD := Lib.hid (h.drop (takeAt q + 1) c hcap)
  have ht : (q.take (takeAt q)).length = takeAt q := by rw [List.length_take]; omega
  have hd : (q.drop (takeAt q + 1)).length = q.length - (takeAt q + 1) := by rw [List.length_drop]
  have hw1 : IntKind.i64.wrap ((takeAt q : Int) + 1) = ((takeAt q + 1 : Nat) : Int) := by rw [IntWalk.i64_in _ (by omega)]; omega
  have hk1 : takeAt q + 1 ≤ q.length := hlt
  generalize canAt q (takeAt q) = x at *
  generalize q.take (takeAt q) = l1 at *
  generalize q.drop (takeAt q + 1) = l2 at *
  generalize (if c = takeAt q + 1 then (some ⟨b, o, none⟩ : Option Addr) else (some (⟨b, o, none⟩ : Addr)).map (·.add ((takeAt q + 1) * 2))) = a2 at *
  generalize c - (takeAt q + 1) = c2 at *
  generalize takeAt q = k at *
  rw [← hd] at h2
  obtain ⟨r, hr⟩ : ∃ r, k + 1 = r := ⟨_, rfl⟩
  rw [hr] at h2 hw1 hk1
  have hq0 : (0 : Int) ≤ (r : Int) := by omega
  have hq1 : (r : Int) ≤ (q.length : Int) := by omega
  have hi1 : (0 : Int) ≤ (k : Int) := by omega
  have hi2 : (k : Int) < (q.length : Int) := by omega
  have hk2 : k ≤ c := by omega
  have hsum : l1.length + l2.length ≤ 16 := by omega
  have HKL := Lib.hid ht
  have HC := Lib.hid hc
  obtain ⟨n, s⟩ := x
  simp only at hq ⊢
  obtain ⟨q0, q1⟩ := hq
  obtain ⟨N, hN⟩ : ∃ N, q.length = N := ⟨_, rfl⟩
  rw [hN] at h1 h2 hlt hcap hlen hk1 hq1 hi2 HFI h0 ⊢
  clear hr hd hN h ht hc hi
  go_enter Try.func49, Try.ntmps49
  go_wp2_with fail
  refine (HFI _ (fun i x hx => ⟨((HB.out _ _).cell (p := ⟨b, _, none⟩) hb).trans (HC.out i x hx).1, ((HB.out _ _).cell (p := ⟨b, _, none⟩) hb).trans (HC.out i x hx).2⟩)).out.mono ?_
  rintro e w1 ⟨rfl, hw1'⟩
  have b1 := (HB.out _ _).trans (hw1'.mono (by simp; omega))
  have HA1 := Lib.hid (((RowAt.new w #[.slice (some ⟨b, o, none⟩) N c] 25).alloc (.cells #[.slice none 0 0, .int .i64 0, .string ⟨#[]⟩, .int .i64 0] 31)).kept hw1')
  have HR := (RowAt.new _ _ _).kept hw1'
  simp only [World.size_alloc] at HR
  have HR1 := Lib.hid HR
  have e1 := HA1.out.get 0 _ rfl
  have lA := HA1.out.lt
  have lR := HR1.out.lt
  have HO1 := Lib.hid (World.ownsRow_lit (base := w1.heap.size) (size := 2) (e := 29) w1 #[] 0 (Nat.le_refl _) (by unfold maxLen; omega) rfl)
  have HT1 := Lib.hid (HT.out.kept (b1.alloc b1.size (.cells #[] 29)))
  have hsz1 : w1.heap.size ≤ (w1.alloc (.cells #[] 29)).heap.size := by simp
  have hl1 : l1.length ≤ 16 := by omega
  clear hw1' HR
  go_wp2_with (at_builtin; (refine wpList_append_cans rfl (.tmp 8) (.tmp 12) 23 rfl w1.heap.size 29 i0 _ 24 Try.underlying23 HI.out hz0 hz1 hz2 rfl (.slice (some ⟨w1.heap.size, 0, none⟩) 0 0) 0 _ rfl HO1.out (some ⟨b, o, none⟩) c l1 (by rw [HKL.out]; rfl) HT1.out (by unfold maxLen; omega) (by omega) hsz1 ?_; intro v3 w3 hown3 hgrow3; obtain ⟨a3, c3, rfl⟩ := owns_slice hown3; have hb3 : Below w1.heap.size (w1.alloc (.cells #[] 29)) w3 := (Below.refl _ _).grown hgrow3 hsz1 (fun j hj => Nat.le_of_eq (Option.some.inj (show some w1.heap.size = some j from hj))); have e3 := (hb3.cell (p := ⟨w.heap.size, 0, none⟩) lA).trans (((HA1.out.alloc (.cells #[] 29))).get 0 _ rfl); have HR3 := Lib.hid ((HR1.out.alloc (.cells #[] 29)).below hb3 lR); have HO3 := Lib.hid hown3; have b3 := (b1.alloc b1.size (.cells #[] 29)).trans (hb3.mono b1.size); have hs3 : w1.heap.size ≤ w3.heap.size := by (have := hb3.size; simp at this; omega)))
  simp only [Nat.zero_add, List.nil_append] at HO3
  have p0 := (b3.cell (p := ⟨b, o + k * 2, none⟩) hb).trans q0
  have p1 := (b3.cell (p := ⟨b, o + k * 2 + 1, none⟩) hb).trans q1
  have HO3' := Lib.hid (owns_below HO3.out (Below.refl w3.heap.size w3).drew)
  have HD3 := Lib.hid ((HD.out.kept b3).kept (Below.refl w3.heap.size w3).drew)
  have HLt := Lib.hid (World.ownsRow.lt HO3.out)
  have hrow : ∀ j, (Value.slice a3 l1.length c3).ownBlock = some j → w1.heap.size ≤ j := fun j hj => (HLt.out j hj).1
  have HRow := Lib.hid hrow
  have hs3' : w1.heap.size ≤ w3.drew.heap.size := hs3
  have lb : b < w1.heap.size := by omega
  have hle1 : w.heap.size ≤ w1.heap.size := by omega
  have nX : w.heap.size ≠ w.heap.size + 1 := by omega
  have nb : b ≠ w.heap.size + 1 := by omega
  clear hown3 hgrow3 hb3 e1 HO1 HT1 HA1 hrow
  go_region_held3 (fun W => (W.cell? ⟨w.heap.size, 0, none⟩ = some (.slice (some ⟨b, o, none⟩) N c) ∧ W.cell? ⟨b, o + k * 2, none⟩ = some (.int .i64 n) ∧ W.cell? ⟨b, o + k * 2 + 1, none⟩ = some (.string s)) ∧ Below w.heap.size w W ∧ w1.heap.size ≤ W.heap.size)
    (first | assumption | (with_reducible exact three_first e3 p0 p1 b3 hs3) | (with_reducible exact three_grown lA lb lb hle1 (by assumption) (by assumption) HRow.out) | (with_reducible exact three_set4 nX nb nb (Nat.le_succ w.heap.size) rfl rfl rfl (by assumption)))
    ((refine step_append_cans (by rfl) _ _ 23 (by rfl) w1.heap.size 29 i0 _ 24 Try.underlying23 HI.out hz0 hz1 hz2 rfl (.slice a3 l1.length c3) l1.length (ccells l1) (by rfl) HO3'.out a2 c2 l2 (by rfl) HD3.out (by unfold maxLen; omega) (by omega) hs3' ?_; intro v5 w5 hown5 hg5; obtain ⟨a5, c5, rfl⟩ := owns_slice hown5; have HR5 := HR3.out.drew.out (Out.of_grown hg5 HLt.out) (.inl lR); have y0 := HR5.get 0 _ rfl; have y1 := HR5.get 1 _ rfl; have y2 := HR5.get 2 _ rfl; have y3 := HR5.get 3 _ rfl; have y4 := HR5.free; have HO5 := Lib.hid hown5; clear HR5 hown5))
  have b5 : Below w.heap.size w w5 := b3.drew.trans ((Below.refl _ _).grown hg5 (by have := b3.size; simpa using this) (fun j hj => Nat.le_trans hle1 (HRow.out j hj)))
  have HO6 := owns_set_lt (owns_set_lt (owns_set_lt (owns_set_lt HO5.out (p := ⟨w.heap.size + 1, 0, none⟩) lR (.slice a5 (l1.length + l2.length) c5)) (p := ⟨w.heap.size + 1, 1, none⟩) lR (.int .i64 n)) (p := ⟨w.heap.size + 1, 2, none⟩) lR (.string s)) (p := ⟨w.heap.size + 1, 3, none⟩) lR (.int .i64 0)
  rw [← List.length_append, ← ccells_append] at HO6
  obtain ⟨a4, c4, he4, hc4, hn4⟩ := NewIn.of_owns HO6
  simp only [Value.slice.injEq, true_and] at he4
  obtain ⟨rfl, rfl⟩ := he4
  clear HO5 HO6 hg5 HO3 HO3' HR3 HR1
  go_wp2
  refine bodyPost_ret (v := .agg #[.slice a5 (l1 ++ l2).length c5, .int .i64 n, .string s, .int .i64 0]) (by simp [results, Try.results49, go_sem, y0, y1, y2, y3]) rfl
    ⟨a5, c5, rfl, hc4, NewIn.wide (by simpa using hn4) hle1 (by simp), ?_⟩
  exact (((b5.setCell (by simp) _).setCell (by simp) _).setCell (by simp) _).setCell (by simp) _
set_option maxRecDepth 100000 in
set_option maxHeartbeats 4000000 in
theorem specQueueTake_any (a : Option Addr) (c : Nat) (q : List (Int × ByteArray)) (w : World) (h : CansIn w a q) (hok : CansOk q) (hlen : q.length ≤ 1048576) (hcap : q.length ≤ c) :
    Calls Try.prog 15 #[.agg #[.slice a q.length c]] w (QOut w (takeL q) (takeC q).1 (takeC q).2 (takeCode q)) := by
  have HB := Lib.hid (fun o o' : Obj => ((Below.refl w.heap.size w).alloc (Nat.le_refl _) o).alloc (by simp) o')
  have HQ := fun W hW => Lib.hid (specQueueRight_any a c q W hW hok hlen)
  have HC := Lib.hid h
  rcases hq : qRightB q
  · rw [hq] at HQ
    have hp := takeCode_form hq
    have hT : takeL q = [] := if_neg (by rw [hp]; decide)
    have hC : takeC q = (0, ⟨#[]⟩) := if_neg (by rw [hp]; decide)
    rw [hp, hT, hC]
    clear hp hT hC h
    go_enter Try.func15, Try.ntmps15
    go_wp2_with fail
    refine (HQ _ (HC.out.kept (HB.out _ _))).out.mono ?_
    rintro e w1 ⟨rfl, h1⟩
    have b1 := (HB.out _ _).trans (h1.mono (by simp; omega))
    have HR := (RowAt.new _ _ _).kept h1
    simp only [World.size_alloc] at HR
    have HR1 := Lib.hid HR
    clear HR h1
    go_wp2_with fail
    refine (l03Ill_any _ _).mono ?_
    rintro e w2 ⟨rfl, h2⟩
    have b2 := b1.trans (h2.mono b1.size)
    have HR := HR1.out.kept h2
    have x0 := HR.get 0 _ rfl
    have x1 := HR.get 1 _ rfl
    have x2 := HR.get 2 _ rfl
    have x3 := HR.get 3 _ rfl
    have y := HR.free
    clear HR h2
    go_wp2
    exact bodyPost_ret (v := .agg #[.slice none 0 0, .int .i64 0, .string ⟨#[]⟩, .int .i64 1]) (by simp [results, Try.results15, go_sem, x0, x1, x2, x3]) rfl
      ⟨none, 0, rfl, Nat.le_refl _, .inl rfl, (((b2.setCell (by simp) _).setCell (by simp) _).setCell (by simp) _).setCell (by simp) _⟩
  rw [hq] at HQ
  by_cases h0 : q.length = 0
  · have hp := takeCode_none hq h0
    have hT : takeL q = [] := if_neg (by rw [hp]; decide)
    have hC : takeC q = (0, ⟨#[]⟩) := if_neg (by rw [hp]; decide)
    rw [hp, hT, hC]
    have hd : ((q.length : Int) == 0) = true := beq_iff_eq.2 (by omega)
    clear hp hT hC h h0
    go_enter Try.func15, Try.ntmps15
    go_wp2_with fail
    refine (HQ _ (HC.out.kept (HB.out _ _))).out.mono ?_
    rintro e w1 ⟨rfl, h1⟩
    have b1 := (HB.out _ _).trans (h1.mono (by simp; omega))
    have HR := (RowAt.new _ _ _).kept h1
    simp only [World.size_alloc] at HR
    have HR1 := Lib.hid HR
    have v0 := (((RowAt.new w #[.slice a q.length c] 25).alloc _).kept h1).get 0 _ rfl
    clear HR h1
    go_wp2_with fail
    refine (l03Ill_any _ _).mono ?_
    rintro e w2 ⟨rfl, h2⟩
    have b2 := b1.trans (h2.mono b1.size)
    have HR := HR1.out.kept h2
    have x0 := HR.get 0 _ rfl
    have x1 := HR.get 1 _ rfl
    have x2 := HR.get 2 _ rfl
    have x3 := HR.get 3 _ rfl
    have y := HR.free
    clear HR h2
    go_wp2
    exact bodyPost_ret (v := .agg #[.slice none 0 0, .int .i64 0, .string ⟨#[]⟩, .int .i64 6]) (by simp [results, Try.results15, go_sem, x0, x1, x2, x3]) rfl
      ⟨none, 0, rfl, Nat.le_refl _, .inl rfl, (((b2.setCell (by simp) _).setCell (by simp) _).setCell (by simp) _).setCell (by simp) _⟩
  have hp := takeCode_ok hq h0
  have hT : takeL q = q.take (takeAt q) ++ q.drop (takeAt q + 1) := if_pos hp
  have hC : takeC q = canAt q (takeAt q) := if_pos hp
  have hd : ((q.length : Int) == 0) = false := beq_eq_false_iff_ne.2 (by omega)
  obtain ⟨b, o, rfl⟩ : ∃ b o, a = some ⟨b, o, none⟩ := by
    rcases h with h | ⟨b, o, h, _⟩
    · rw [h] at h0
      exact absurd rfl h0
    · exact ⟨b, o, h⟩
  have HT := fun W hW => Lib.hid (l03Take_any b o c q W hW (by omega) (qRightB_of hq).1 hcap)
  rw [← hT, ← hC] at HT
  rw [hp]
  generalize takeL q = L at *
  generalize takeC q = x at *
  obtain ⟨n, s⟩ := x
  simp only at HT ⊢
  clear hp hT hC h h0 hq
  go_enter Try.func15, Try.ntmps15
  go_wp2_with fail
  refine (HQ _ (HC.out.kept (HB.out _ _))).out.mono ?_
  rintro e w1 ⟨rfl, h1⟩
  have b1 := (HB.out _ _).trans (h1.mono (by simp; omega))
  have HR := (RowAt.new _ _ _).kept h1
  simp only [World.size_alloc] at HR
  have HR1 := Lib.hid HR
  have v0 := (((RowAt.new w #[.slice (some ⟨b, o, none⟩) q.length c] 25).alloc _).kept h1).get 0 _ rfl
  clear HR h1
  go_wp2_with fail
  refine (HT _ (HC.out.kept b1)).out.mono ?_
  rintro e w3 ⟨a3, c3, rfl, hc3, hn3, h3⟩
  have b3 := b1.trans (h3.mono b1.size)
  have HR := HR1.out.kept h3
  have HL := Lib.hid HR1.out.lt
  have x0 := HR.get 0 _ rfl
  have x1 := HR.get 1 _ rfl
  have x2 := HR.get 2 _ rfl
  have x3 := HR.get 3 _ rfl
  have y := HR.free
  have HN3 := Lib.hid hn3
  have HC3 := Lib.hid hc3
  have HS1 := Lib.hid b1.size
  clear HR h3 hn3 hc3
  go_wp2
  refine bodyPost_ret (v := .agg #[.slice a3 L.length c3, .int .i64 n, .string s, .int .i64 0]) (by simp [results, Try.results15, go_sem, x0, x1, x2, x3]) rfl
    ⟨a3, c3, rfl, HC3.out, ?_, (((b3.setCell (by simp) _).setCell (by simp) _).setCell (by simp) _).setCell (by simp) _⟩
  refine NewIn.wide (lo := w1.heap.size) (hi := w3.heap.size) (NewIn.out (lo' := w.heap.size + 1) (hi' := w.heap.size + 2) HN3.out ?_ (.inr (by have := HL.out; omega))) HS1.out (by simp)
  exact ((((Out.refl _ _ _).setCell (by simp) (by simp) _).setCell (by simp) (by simp) _).setCell (by simp) (by simp) _).setCell (by simp) (by simp) _
end Go.Proofs.Ytmfnbbjhaolhgaa
