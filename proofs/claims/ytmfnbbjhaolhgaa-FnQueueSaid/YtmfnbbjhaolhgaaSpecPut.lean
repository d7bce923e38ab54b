/- The model's QueuePut and what it calls. Nothing that was there is written. -/
import Derived.Test.YtmfnbbjhaolhgaaQueuePut
namespace Go.Proofs.Ytmfnbbjhaolhgaa
open Go.RowKit Go.Joins
set_option linter.unusedVariables false

set_option maxHeartbeats 1000000 in
theorem l03Ill_any (k : Int) (w : World) : Calls Try.prog 46 #[.int .i64 k] w fun e w' => e = .returned (.agg #[.slice none 0 0, .int .i64 0, .string ⟨#[]⟩, .int .i64 k]) ∧ Below w.heap.size w w' := by
  go_enter Try.func46, Try.ntmps46
  go_wp2
  exact bodyPost_ret (v := .agg #[.slice none 0 0, .int .i64 0, .string ⟨#[]⟩, .int .i64 k]) (by simp [results, Try.results46, go_sem]) rfl ⟨rfl, (Below.refl _ _).alloc (Nat.le_refl _) _⟩
set_option maxRecDepth 100000 in
set_option maxHeartbeats 2000000 in
theorem l03Copy_any (a : Option Addr) (c : Nat) (q : List (Int × ByteArray)) (w : World) (h : CansIn w a q) (hlen : q.length ≤ 1048576) :
    Calls Try.prog 66 #[.agg #[.slice a q.length c]] w fun e w' => ∃ a2 c2, e = .returned (.agg #[.slice a2 q.length c2]) ∧ w'.ownsRow (w.heap.size + 2) 29 2 (.slice a2 q.length c2) q.length (ccells q) ∧ w.heap.size + 2 ≤ w'.heap.size ∧ Below w.heap.size w w' := by
  obtain ⟨i0, hi, hz0, hz1, hz2⟩ := info_parts CansTo.info
  have HB := Lib.hid (fun o o' o2 : Obj => (((Below.refl w.heap.size w).alloc (Nat.le_refl _) o).alloc (by simp) o').alloc (by simp; omega) o2)
  have HC := Lib.hid h
  have HO : Hid (∀ o o' : Obj, (((w.alloc o).alloc o').alloc (.cells #[] 29)).ownsRow (w.heap.size + 2) 29 2 (.slice (some ⟨w.heap.size + 1 + 1, 0, none⟩) 0 0) 0 []) := Lib.hid (fun o o' => by
    have := World.ownsRow_lit (base := w.heap.size + 2) (size := 2) (e := 29) ((w.alloc o).alloc o') #[] 0 (by simp) (by unfold maxLen; omega) rfl
    simpa using this)
  have HI := Lib.hid hi
  clear h hi
  go_enter Try.func66, Try.ntmps66
  go_wp2_with (at_builtin; refine wpList_append_cans rfl (.tmp 3) (.tmp 5) 23 rfl (w.heap.size + 2) 29 i0 _ 24 Try.underlying23 HI.out hz0 hz1 hz2 rfl _ 0 _ rfl (HO.out _ _) a c q rfl (HC.out.kept (HB.out _ _ _)) (by unfold maxLen; omega) (by omega) (by simp) ?_; intro v3 w3 hown3 hgrow3; obtain ⟨a3, c3, rfl⟩ := owns_slice hown3; have hb3 := (Below.refl _ _).grown hgrow3 (B := w.heap.size + 2) (by simp) (fun j hj => Nat.le_of_eq (Option.some.inj (show some (w.heap.size + 1 + 1) = some j from hj))); have x0 : w3.cell? ⟨w.heap.size + 1, 0, none⟩ = some (.slice none 0 0) := (hb3.cell (p := ⟨w.heap.size + 1, 0, none⟩) (Nat.lt_succ_self _)).trans (by simp [go_sem]); have y0 : w3.frozen? ⟨w.heap.size + 1, 0, none⟩ = false := (hb3.frozen (p := ⟨w.heap.size + 1, 0, none⟩) (Nat.lt_succ_self _)).trans (by simp [go_sem]); have b3 := (HB.out _ _ _).trans (hb3.mono (by omega)); have HO3 := Lib.hid hown3; have hsz := hgrow3.size; simp at hsz; clear hown3 hgrow3 hb3)
  have HO4 := owns_set_lt HO3.out (p := ⟨w.heap.size + 1, 0, none⟩) (Nat.lt_succ_self _) (.slice a3 (0 + q.length) c3)
  simp only [Nat.zero_add, List.nil_append] at HO4
  exact bodyPost_ret (v := .agg #[.slice a3 q.length c3]) (by simp [results, Try.results66, go_sem, x0]) rfl
    ⟨a3, c3, rfl, HO4, by simp; omega, b3.setCell (by simp) _⟩
set_option maxRecDepth 100000 in
set_option maxHeartbeats 4000000 in
theorem l03Put_any (a a' : Option Addr) (c c' : Nat) (q l : List (Int × ByteArray)) (w : World) (h : CansIn w a q) (hlen : q.length ≤ 16) (h' : CansIn w a' l) (hlen' : l.length ≤ 1048576) :
    Calls Try.prog 48 #[.agg #[.slice a q.length c], .slice a' l.length c'] w (QOut w (if 16 < q.length + l.length then [] else q ++ l) 0 ⟨#[]⟩ (if 16 < q.length + l.length then 9 else 0)) := by
  have HB := Lib.hid (fun o o' : Obj => ((Below.refl w.heap.size w).alloc (Nat.le_refl _) o).alloc (by simp) o')
  have HC := Lib.hid h
  have HC' := Lib.hid h'
  have hw : IntKind.i64.wrap ((q.length : Int) + (l.length : Int)) = (q.length : Int) + l.length := IntWalk.i64_in _ (by omega)
  clear h h'
  by_cases h16 : 16 < q.length + l.length
  · have hd : decide (16 < (q.length : Int) + (l.length : Int)) = true := decide_eq_true (by omega)
    rw [if_pos h16, if_pos h16]
    go_enter Try.func48, Try.ntmps48
    go_wp2_with fail
    refine (l03Ill_any _ _).mono ?_
    rintro e w1 ⟨rfl, h1⟩
    have b1 := (HB.out _ _).trans (h1.mono (by simp; omega))
    have HR := (RowAt.new _ _ _).kept h1
    simp only [World.size_alloc] at HR
    have x0 := HR.get 0 _ rfl
    have x1 := HR.get 1 _ rfl
    have x2 := HR.get 2 _ rfl
    have x3 := HR.get 3 _ rfl
    have y := HR.free
    clear HR h1
    go_wp2
    exact bodyPost_ret (v := .agg #[.slice none 0 0, .int .i64 0, .string ⟨#[]⟩, .int .i64 9]) (by simp [results, Try.results48, go_sem, x0, x1, x2, x3]) rfl
      ⟨none, 0, rfl, Nat.le_refl _, .inl rfl, (((b1.setCell (by simp) _).setCell (by simp) _).setCell (by simp) _).setCell (by simp) _⟩
  · have hd : decide (16 < (q.length : Int) + (l.length : Int)) = false := decide_eq_false (by omega)
    rw [if_neg h16, if_neg h16]
    obtain ⟨i0, hi, hz0, hz1, hz2⟩ := info_parts CansTo.info
    have HI := Lib.hid hi
    have hlen2 : q.length + l.length ≤ 16 := by omega
    clear hi hlen' h16
    go_enter Try.func48, Try.ntmps48
    go_wp2_with fail
    refine (l03Copy_any a c q _ (HC.out.kept (HB.out _ _)) (by omega)).mono ?_
    rintro e w1 ⟨a1, c1, rfl, hown1, hs1, h1⟩
    have b1 := (HB.out _ _).trans (h1.mono (by simp; omega))
    have HR := (RowAt.new _ _ _).kept h1
    simp only [World.size_alloc] at HR hown1 hs1
    have hsa : w.heap.size + 1 + 1 + 2 ≤ (w1.alloc (.cells #[.slice a1 q.length c1] 25)).heap.size := by simp; omega
    have HR1 := Lib.hid HR
    have HO1 := Lib.hid hown1
    clear HR hown1 h1
    have HO1' := Lib.hid (World.ownsRow.alloc HO1.out (.cells #[.slice a1 q.length c1] 25))
    have HC1 := Lib.hid (HC'.out.kept (b1.alloc (by omega) (.cells #[.slice a1 q.length c1] 25)))
    go_wp2_with (at_builtin; go_loud (refine wpList_append_cans rfl (.tmp 17) (.tmp 18) 23 rfl (w.heap.size + 1 + 1 + 2) 29 i0 _ 24 Try.underlying23 HI.out hz0 hz1 hz2 rfl _ q.length _ rfl HO1'.out a' c' l rfl HC1.out (by unfold maxLen; omega) (by omega) hsa ?_; intro v3 w3 hown3 hgrow3; obtain ⟨a3, c3, rfl⟩ := owns_slice hown3; have hO : Out (w.heap.size + 1 + 1 + 2) w1.heap.size (w1.alloc (.cells #[.slice a1 q.length c1] 25)) w3 := Out.of_grown hgrow3 (fun k hk => World.ownsRow.lt HO1.out k hk); have HV := (RowAt.new w1 #[.slice a1 q.length c1] 25).out hO (.inr (Nat.le_refl _)); have HR3 := (HR1.out.alloc (.cells #[.slice a1 q.length c1] 25)).out hO (.inl (by omega)); have hk3 := (hO.block w1.heap.size (by simp) (.inr (Nat.le_refl _))).trans (heap_alloc_new w1 (.cells #[.slice a1 q.length c1] 25)); have v0 := HV.get 0 _ rfl; have v1 := HV.free; have x0 := HR3.get 0 _ rfl; have x1 := HR3.get 1 _ rfl; have x2 := HR3.get 2 _ rfl; have x3 := HR3.get 3 _ rfl; have y := HR3.free; have HN3 := Lib.hid (owns_ne hown3 hk3 (by decide)); have b3 := Out.below hO (b1.alloc (by omega) (.cells #[.slice a1 q.length c1] 25)) (by omega) (by simp; omega); have HO3 := Lib.hid hown3; clear hown3 hgrow3 hk3 HV HR3 hO))
    have HO4 := owns_set_lt (owns_set_lt (owns_set_lt (owns_set_lt (owns_set HO3.out (p := ⟨w1.heap.size, 0, none⟩) HN3.out (.slice a3 (q.length + l.length) c3)) (p := ⟨w.heap.size + 1, 0, none⟩) (by simp <;> omega) (.slice a3 (q.length + l.length) c3)) (p := ⟨w.heap.size + 1, 1, none⟩) (by simp <;> omega) (.int .i64 0)) (p := ⟨w.heap.size + 1, 2, none⟩) (by simp <;> omega) (.string ⟨#[]⟩)) (p := ⟨w.heap.size + 1, 3, none⟩) (by simp <;> omega) (.int .i64 0)
    rw [← List.length_append, ← ccells_append] at HO4
    obtain ⟨a4, c4, he4, hc4, hn4⟩ := NewIn.of_owns HO4
    simp only [Value.slice.injEq, true_and] at he4
    obtain ⟨rfl, rfl⟩ := he4
    refine bodyPost_ret (v := .agg #[.slice a3 (q ++ l).length c3, .int .i64 0, .string ⟨#[]⟩, .int .i64 0]) (by simp [results, Try.results48, go_sem, x0, x1, x2, x3]) rfl
      ⟨a3, c3, rfl, hc4, NewIn.wide (by simpa using hn4) (by omega) (by simp), ?_⟩
    exact ((((b3.setCell (by simp; omega) _).setCell (by simp) _).setCell (by simp) _).setCell (by simp) _).setCell (by simp) _
set_option maxRecDepth 100000 in
set_option maxHeartbeats 4000000 in
theorem specQueuePut_any (a a' : Option Addr) (c c' : Nat) (q l : List (Int × ByteArray)) (w : World) (h : CansIn w a q) (hok : CansOk q) (hlen : q.length ≤ 1048576) (h' : CansIn w a' l) (hok' : CansOk l) (hlen' : l.length ≤ 1048576) :
    Calls Try.prog 14 #[.agg #[.slice a q.length c], .slice a' l.length c'] w (QOut w (putL q l) 0 ⟨#[]⟩ (putCode q l)) := by
  have HB := Lib.hid (fun o o' : Obj => ((Below.refl w.heap.size w).alloc (Nat.le_refl _) o).alloc (by simp) o')
  have HQ := fun W hW => Lib.hid (specQueueRight_any a c q W hW hok hlen)
  have HA := fun W hW => Lib.hid (specAll_any a' c' l W hW hok' hlen')
  have HC := Lib.hid h
  have HC' := Lib.hid h'
  clear h h' hok hok'
  by_cases h4 : 400 < l.length
  · have hd : decide (400 < (l.length : Int)) = true := decide_eq_true (by omega)
    have hp := putCode_size (q := q) h4
    have hL : putL q l = [] := if_neg (by rw [hp]; decide)
    rw [hp, hL]
    clear hp hL
    go_enter Try.func14, Try.ntmps14
    go_wp2_with fail
    refine (l03Ill_any _ _).mono ?_
    rintro e w1 ⟨rfl, h1⟩
    have b1 := (HB.out _ _).trans (h1.mono (by simp; omega))
    have HR := (RowAt.new _ _ _).kept h1
    simp only [World.size_alloc] at HR
    have x0 := HR.get 0 _ rfl
    have x1 := HR.get 1 _ rfl
    have x2 := HR.get 2 _ rfl
    have x3 := HR.get 3 _ rfl
    have y := HR.free
    clear HR h1
    go_wp2
    exact bodyPost_ret (v := .agg #[.slice none 0 0, .int .i64 0, .string ⟨#[]⟩, .int .i64 2]) (by simp [results, Try.results14, go_sem, x0, x1, x2, x3]) rfl
      ⟨none, 0, rfl, Nat.le_refl _, .inl rfl, (((b1.setCell (by simp) _).setCell (by simp) _).setCell (by simp) _).setCell (by simp) _⟩
  have hd : decide (400 < (l.length : Int)) = false := decide_eq_false (by omega)
  rcases hq : qRightB q
  · rw [hq] at HQ
    have hp := putCode_form (l := l) h4 (.inl hq)
    have hL : putL q l = [] := if_neg (by rw [hp]; decide)
    rw [hp, hL]
    clear hp hL
    go_enter Try.func14, Try.ntmps14
    go_wp2_with fail
    refine (HQ _ (HC.out.kept (HB.out _ _))).out.mono ?_
    rintro e w1 ⟨rfl, h1⟩
    have b1 := (HB.out _ _).trans (h1.mono (by simp; omega))
    have HR := (RowAt.new _ _ _).kept h1
    simp only [World.size_alloc] at HR
    have HR1 := Lib.hid HR
    clear HR h1
    go_wp2_with fail
    refine (l03Ill_any _ _).mono ?_
    rintro e w2 ⟨rfl, h2⟩
    have b2 := b1.trans (h2.mono b1.size)
    have HR := HR1.out.kept h2
    have x0 := HR.get 0 _ rfl
    have x1 := HR.get 1 _ rfl
    have x2 := HR.get 2 _ rfl
    have x3 := HR.get 3 _ rfl
    have y := HR.free
    clear HR h2
    go_wp2
    exact bodyPost_ret (v := .agg #[.slice none 0 0, .int .i64 0, .string ⟨#[]⟩, .int .i64 1]) (by simp [results, Try.results14, go_sem, x0, x1, x2, x3]) rfl
      ⟨none, 0, rfl, Nat.le_refl _, .inl rfl, (((b2.setCell (by simp) _).setCell (by simp) _).setCell (by simp) _).setCell (by simp) _⟩
  rw [hq] at HQ
  rcases ha : allB l
  · rw [ha] at HA
    have hp := putCode_form (q := q) h4 (.inr ha)
    have hL : putL q l = [] := if_neg (by rw [hp]; decide)
    rw [hp, hL]
    clear hp hL
    go_enter Try.func14, Try.ntmps14
    go_wp2_with fail
    refine (HQ _ (HC.out.kept (HB.out _ _))).out.mono ?_
    rintro e w1 ⟨rfl, h1⟩
    have b1 := (HB.out _ _).trans (h1.mono (by simp; omega))
    have HR := (RowAt.new _ _ _).kept h1
    simp only [World.size_alloc] at HR
    have HR1 := Lib.hid HR
    clear HR h1
    go_wp2_with fail
    refine (HA _ (HC'.out.kept b1)).out.mono ?_
    rintro e w2 ⟨rfl, h2⟩
    have b2 := b1.trans (h2.mono b1.size)
    have HR2 := Lib.hid (HR1.out.kept h2)
    clear HR1 h2
    go_wp2_with fail
    refine (l03Ill_any _ _).mono ?_
    rintro e w3 ⟨rfl, h3⟩
    have b3 := b2.trans (h3.mono b2.size)
    have HR := HR2.out.kept h3
    have x0 := HR.get 0 _ rfl
    have x1 := HR.get 1 _ rfl
    have x2 := HR.get 2 _ rfl
    have x3 := HR.get 3 _ rfl
    have y := HR.free
    clear HR h3
    go_wp2
    exact bodyPost_ret (v := .agg #[.slice none 0 0, .int .i64 0, .string ⟨#[]⟩, .int .i64 1]) (by simp [results, Try.results14, go_sem, x0, x1, x2, x3]) rfl
      ⟨none, 0, rfl, Nat.le_refl _, .inl rfl, (((b3.setCell (by simp) _).setCell (by simp) _).setCell (by simp) _).setCell (by simp) _⟩
  rw [ha] at HA
  have hp : putCode q l = if 16 < q.length + l.length then 9 else 0 := by
    by_cases h3 : 16 < q.length + l.length
    · rw [putCode_full h4 hq ha h3, if_pos h3]
    · rw [putCode_ok h4 hq ha h3, if_neg h3]
  have hL : putL q l = if 16 < q.length + l.length then [] else q ++ l := by
    unfold putL
    by_cases h3 : 16 < q.length + l.length
    · rw [putCode_full h4 hq ha h3, if_pos h3, if_neg (by decide)]
    · rw [putCode_ok h4 hq ha h3, if_neg h3, if_pos rfl]
  have HP := fun W hW hW' => Lib.hid (l03Put_any a a' c c' q l W hW (qRightB_of hq).1 hW' hlen')
  rw [← hp, ← hL] at HP
  generalize putCode q l = k at *
  generalize putL q l = L at *
  clear hp hL
  go_enter Try.func14, Try.ntmps14
  go_wp2_with fail
  refine (HQ _ (HC.out.kept (HB.out _ _))).out.mono ?_
  rintro e w1 ⟨rfl, h1⟩
  have b1 := (HB.out _ _).trans (h1.mono (by simp; omega))
  have HR := (RowAt.new _ _ _).kept h1
  simp only [World.size_alloc] at HR
  have HR1 := Lib.hid HR
  have HV1 := Lib.hid (((RowAt.new w #[.slice a q.length c] 25).alloc _).kept h1)
  clear HR h1
  go_wp2_with fail
  refine (HA _ (HC'.out.kept b1)).out.mono ?_
  rintro e w2 ⟨rfl, h2⟩
  have b2 := b1.trans (h2.mono b1.size)
  have HR2 := Lib.hid (HR1.out.kept h2)
  have v0 := (HV1.out.kept h2).get 0 _ rfl
  clear HR1 h2
  go_wp2_with fail
  refine (HP _ (HC.out.kept b2) (HC'.out.kept b2)).out.mono ?_
  rintro e w3 ⟨a3, c3, rfl, hc3, hn3, h3⟩
  have b3 := b2.trans (h3.mono b2.size)
  have HR := HR2.out.kept h3
  have HL := Lib.hid HR2.out.lt
  have x0 := HR.get 0 _ rfl
  have x1 := HR.get 1 _ rfl
  have x2 := HR.get 2 _ rfl
  have x3 := HR.get 3 _ rfl
  have y := HR.free
  have HN3 := Lib.hid hn3
  have HC3 := Lib.hid hc3
  have HS2 := Lib.hid b2.size
  clear HR h3 hn3 hc3
  go_wp2
  refine bodyPost_ret (v := .agg #[.slice a3 L.length c3, .int .i64 0, .string ⟨#[]⟩, .int .i64 k]) (by simp [results, Try.results14, go_sem, x0, x1, x2, x3]) rfl
    ⟨a3, c3, rfl, HC3.out, ?_, (((b3.setCell (by simp) _).setCell (by simp) _).setCell (by simp) _).setCell (by simp) _⟩
  refine NewIn.wide (lo := w2.heap.size) (hi := w3.heap.size) (NewIn.out (lo' := w.heap.size + 1) (hi' := w.heap.size + 2) HN3.out ?_ (.inr (by have := HL.out; omega))) HS2.out (by simp)
  exact ((((Out.refl _ _ _).setCell (by simp) (by simp) _).setCell (by simp) (by simp) _).setCell (by simp) (by simp) _).setCell (by simp) (by simp) _
end Go.Proofs.Ytmfnbbjhaolhgaa
