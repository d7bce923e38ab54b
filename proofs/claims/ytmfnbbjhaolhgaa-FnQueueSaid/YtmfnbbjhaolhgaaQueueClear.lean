/- QueueClear, the program's: without those of that Src. Nothing that was there is written. -/
import Derived.Test.YtmfnbbjhaolhgaaQueueTake
namespace Go.Proofs.Ytmfnbbjhaolhgaa
open Go.RowKit Go.Joins
set_option linter.unusedVariables false

/-- It is of another Src. -/
def otherB (src : Int) (x : Int × ByteArray) : Bool := x.1 % 256 != src
/-- What a clear leaves. -/
def clearL (q : List (Int × ByteArray)) (src : Int) : List (Int × ByteArray) := if qRightB q = true then q.filter (otherB src) else []
theorem filter_succ {q : List (Int × ByteArray)} {src : Int} {k : Nat} (h : k < q.length) :
    (q.take (k + 1)).filter (otherB src) = (q.take k).filter (otherB src) ++ if otherB src (canAt q k) = true then [canAt q k] else [] := by
  have e := canAt_some h
  obtain ⟨hk, he⟩ := List.getElem?_eq_some_iff.1 e
  rw [List.take_succ_eq_append_getElem h, List.filter_append, he]
  congr 1
  rcases ho : otherB src (canAt q k) <;> simp [ho]
theorem filter_le (q : List (Int × ByteArray)) (src : Int) (k : Nat) : ((q.take k).filter (otherB src)).length ≤ k := by
  have h1 := List.length_filter_le (otherB src) (q.take k)
  have h2 := List.length_take_le k q
  omega

theorem run_field_idid (a b d s c : Int) (w : World) : (Instr.field 77 (.agg #[.int .i64 a, .int .i64 b, .int .i64 d, .int .i64 s, .int .i64 c]) 0).run Try.prog w = .ok (.agg #[.int .i64 a, .int .i64 b, .int .i64 d, .int .i64 s]) w := by
  simp [Instr.field, asAgg, go_sem]
theorem run_field_idsrc (a b d s : Int) (w : World) : (Instr.field 75 (.agg #[.int .i64 a, .int .i64 b, .int .i64 d, .int .i64 s]) 3).run Try.prog w = .ok (.int .i64 s) w := by
  simp [Instr.field, asAgg, go_sem]

set_option maxHeartbeats 2000000 in
theorem ofAnother_any (n : Int) (s : ByteArray) (src : Int) (P : Nat) (w : World) (hn : ofB n = true) (hP : P < w.heap.size) (hc : w.cell? ⟨P, 0, none⟩ = some (.int .i64 src)) :
    Calls Try.prog 50 #[.agg #[.int .i64 n, .string s], .pointer (some ⟨P, 0, none⟩)] w fun e w' => e = .returned (.bool (n % 256 != src)) ∧ Below w.heap.size w w' := by
  obtain ⟨g1, g2, g3⟩ := (ofB_iff n).1 hn
  have HI := fun W => Lib.hid (implIdOf_any n W (by omega) (by omega))
  have hO : idOfV n = idOutV (n / 67108864) (pG n) (pD n) (n % 256) 0 := by simp [idOfV, hn]
  rw [hO] at HI
  unfold idOutV at HI
  have f1 := run_field_idid (n / 67108864) (pG n) (pD n) (n % 256) 0
  have f2 := run_field_idsrc (n / 67108864) (pG n) (pD n) (n % 256)
  generalize n / 67108864 = a at *
  generalize pG n = b at *
  generalize pD n = d at *
  generalize n % 256 = r at *
  have hb := (Below.refl w.heap.size w).alloc (Nat.le_refl _) (.cells #[.int .i64 n, .string s] 29)
  have c0 := (RowAt.new w #[.int .i64 n, .string s] 29).get 0 _ rfl
  have c1 := (hb.cell (p := ⟨P, 0, none⟩) hP).trans hc
  have HB := Lib.hid hb
  clear hO g1 g2 g3 hn hb hc
  go_enter Try.func50, Try.ntmps50
  go_wp2_with fail
  have l0 : w.heap.size < (w.alloc (.cells #[.int .i64 n, .string s] 29)).heap.size := by simp
  have l1 : P < (w.alloc (.cells #[.int .i64 n, .string s] 29)).heap.size := by simp; omega
  have HB' := Lib.hid (show w.heap.size ≤ (w.alloc (.cells #[.int .i64 n, .string s] 29)).heap.size by simp)
  generalize (w.alloc (.cells #[.int .i64 n, .string s] 29)) = W0 at *
  go_region_held3 (fun W => (W.cell? ⟨w.heap.size, 0, none⟩ = some (.int .i64 n) ∧ W.cell? ⟨P, 0, none⟩ = some (.int .i64 src)) ∧ Below W0.heap.size W0 W)
    (first | assumption | exact twoS_first c0 c1 | exact twoS_call l0 l1 (by assumption) (by assumption))
    ((go_at_call 51; (with_reducible refine (HI _).out.mono ?_); rintro e w1 ⟨rfl, h1⟩))
  have b1 := HB.out.drew.trans (h1.mono HB'.out)
  go_wp2
  go_ret
  exact ⟨rfl, b1⟩
set_option maxRecDepth 100000 in
set_option maxHeartbeats 4000000 in
theorem only_any (a : Option Addr) (c : Nat) (q : List (Int × ByteArray)) (src : Int) (P : Nat) (w : World) (h : CansIn w a q) (hlen : q.length ≤ 16) (hall : allB q = true) (hP : P < w.heap.size) (hc : w.cell? ⟨P, 0, none⟩ = some (.int .i64 src)) :
    Calls Try.prog 52 #[.agg #[.slice a q.length c], .func (.func 50) #[] #[.pointer (some ⟨P, 0, none⟩)]] w fun e w' => ∃ a2 c2, e = .returned (.agg #[.slice a2 (q.filter (otherB src)).length c2]) ∧ (q.filter (otherB src)).length ≤ c2 ∧ NewIn w.heap.size w'.heap.size w' a2 (q.filter (otherB src)) ∧ Below w.heap.size w w' := by
  obtain ⟨i0, hi, hz0, hz1, hz2⟩ := info_parts CansTo.info
  have HI := Lib.hid hi
  have HB := Lib.hid (fun o o' : Obj => ((Below.refl w.heap.size w).alloc (Nat.le_refl _) o).alloc (by simp) o')
  obtain ⟨N, hN⟩ : ∃ N, q.length = N := ⟨_, rfl⟩
  have HN := Lib.hid hN
  have HH := Lib.hid h
  have HA := Lib.hid hall
  obtain ⟨L, hL⟩ : ∃ L, q.filter (otherB src) = L := ⟨_, rfl⟩
  have HLL := Lib.hid hL
  rw [hL]
  rw [hN] at hlen ⊢
  clear hL
  have r0 := (RowAt.new (w.alloc (.cells #[.slice a N c] 63)) #[.slice none 0 0] 63)
  simp only [World.size_alloc] at r0
  have HR0 := Lib.hid r0
  clear hN h hi hall r0
  go_enter Try.func52, Try.ntmps52
  go_wp2_with fail
  have b0 := HB.out (.cells #[.slice a N c] 63) (.cells #[.slice none 0 0] 63)
  have hz0' : ((w.alloc (.cells #[.slice a N c] 63)).alloc (.cells #[.slice none 0 0] 63)).heap.size = w.heap.size + 2 := by simp
  generalize ((w.alloc (.cells #[.slice a N c] 63)).alloc (.cells #[.slice none 0 0] 63)) = W0 at *
  go_loopw [5, 7, 11] (fun t _ i wr => ∃ k : Nat, i = .int .i64 (k : Int) ∧ k ≤ N ∧ wr.ownsRow (w.heap.size + 2) 29 2 t ((q.take k).filter (otherB src)).length (ccells ((q.take k).filter (otherB src))) ∧ Below w.heap.size w wr ∧ w.heap.size + 2 ≤ wr.heap.size ∧ RowAt wr (w.heap.size + 1) [.slice none 0 0]) (fun _ _ i _ => N - (intOf i).toNat)
  case atStart => exact ⟨0, rfl, by omega, by simpa [ccells] using World.ownsRow_nil W0 (w.heap.size + 2) 29 2, b0, by omega, HR0.out⟩
  case round =>
    obtain ⟨k, rfl, hk, hown, hb, hsz, hrow⟩ := hrel
    have HO := Lib.hid hown
    have HR := Lib.hid hrow
    clear hown hrow
    by_cases hkn : k < N
    · have hkl : k < q.length := by have := HN.out; omega
      obtain ⟨b, o, rfl, hlt, hc2⟩ : ∃ b o, a = some ⟨b, o, none⟩ ∧ b < w.heap.size ∧ ∀ (i : Nat) x, q[i]? = some x → w.cell? ⟨b, o + i * 2, none⟩ = some (.int .i64 x.1) ∧ w.cell? ⟨b, o + i * 2 + 1, none⟩ = some (.string x.2) := by
        rcases HH.out with h | h
        · rw [h] at hkl
          simp at hkl
        · exact h
      have d0 := (hb.cell (p := ⟨b, _, none⟩) hlt).trans (hc2 k _ (canAt_some hkl)).1
      have d1 := (hb.cell (p := ⟨b, _, none⟩) hlt).trans (hc2 k _ (canAt_some hkl)).2
      have hcan : canB (canAt q k).1 (canAt q k).2 = true := by
        have h1 := HA.out
        unfold allB at h1
        rw [List.all_eq_true] at h1
        exact h1 _ (List.mem_of_getElem? (canAt_some hkl))
      have HF := Lib.hid (filter_succ (src := src) hkl)
      have HFL := Lib.hid (filter_le q src k)
      obtain ⟨x, hx⟩ : ∃ x, canAt q k = x := ⟨_, rfl⟩
      rw [hx] at d0 d1 hcan HF
      clear hx hc2
      obtain ⟨n, s⟩ := x
      simp only at d0 d1 hcan
      have hbw : b < wr.heap.size := by omega
      have hPw : P < wr.heap.size := by omega
      have HP := Lib.hid ((((Below.refl wr.heap.size wr).alloc (Nat.le_refl _) (.cells #[.int .i64 n, .string s] 29)).cell (p := ⟨P, 0, none⟩) hPw).trans ((hb.cell (p := ⟨P, 0, none⟩) hP).trans hc))
      have HOF := Lib.hid (canB_of hcan).1
      have HI1 := Lib.hid (RowAt.new wr #[.int .i64 n, .string s] 29)
      obtain ⟨d, hd⟩ : ∃ d : Bool, (n % 256 != src) = d := ⟨_, rfl⟩
      have HC := fun W hW hP' => Lib.hid (ofAnother_any n s src P W HOF.out hP' hW)
      rw [hd] at HC
      rw [show otherB src (n, s) = d from hd] at HF
      clear hd hcan
      have hb2 := hb.alloc (show w.heap.size ≤ wr.heap.size by omega) (.cells #[.int .i64 n, .string s] 29)
      have HB2 := Lib.hid hb2
      clear hb2
      cases d
      · go_wp2_with fail
        refine (HC _ HP.out (by simp; omega)).out.mono ?_
        rintro e w2 ⟨rfl, h2⟩
        have hsz2 : wr.heap.size < w2.heap.size := by have := h2.size; simp at this; omega
        have HO2 := Lib.hid (owns_below (World.ownsRow.alloc HO.out (.cells #[.int .i64 n, .string s] 29)) h2)
        have HR2 := Lib.hid ((HR.out.alloc (.cells #[.int .i64 n, .string s] 29)).kept h2)
        have b2 := HB2.out.trans (h2.mono (by simp; omega))
        clear h2
        go_wp2_with fail
        go_roundw
        case rel => exact ⟨k + 1, by go_num, by omega, by rw [HF.out]; simpa using HO2.out, b2, by omega, HR2.out⟩
        case measure => simp [intOf]; omega
      · go_wp2_with fail
        refine (HC _ HP.out (by simp; omega)).out.mono ?_
        rintro e w2 ⟨rfl, h2⟩
        have hsz2 : wr.heap.size < w2.heap.size := by have := h2.size; simp at this; omega
        have HO2 := Lib.hid (World.ownsRow.alloc (owns_below (World.ownsRow.alloc HO.out (.cells #[.int .i64 n, .string s] 29)) h2) (.cells #[.int .i64 n, .string s] 29))
        have HR2 := Lib.hid ((HR.out.alloc (.cells #[.int .i64 n, .string s] 29)).kept h2)
        have HI2 := HI1.out.kept h2
        have i0' := HI2.get 0 _ rfl
        have i1' := HI2.get 1 _ rfl
        have b2 := HB2.out.trans (h2.mono (by simp; omega))
        have HX2 := Lib.hid (show CansIn (w2.alloc (.cells #[.int .i64 n, .string s] 29)) (some ⟨w2.heap.size, 0, none⟩) [(n, s)] from .inr ⟨w2.heap.size, 0, rfl, by simp, fun i x hx => by
          have hr := RowAt.new w2 #[.int .i64 n, .string s] 29
          match i, hx with
          | 0, hx =>
            obtain rfl : (n, s) = x := by simpa using hx
            exact ⟨hr.get 0 _ rfl, hr.get 1 _ rfl⟩
          | (i + 1), hx => simp at hx⟩)
        have hfl := HFL.out
        have hsa : w.heap.size + 2 ≤ (w2.alloc (.cells #[.int .i64 n, .string s] 29)).heap.size := by simp; omega
        obtain ⟨M, hM⟩ : ∃ M, ((q.take k).filter (otherB src)).length = M := ⟨_, rfl⟩
        rw [hM] at hfl HO2
        have HM := Lib.hid hM
        clear h2 HI2 hM
        go_wp2_with (at_builtin; (refine wpList_append_cans rfl (.tmp 18) (.tmp 20) 23 rfl (w.heap.size + 2) 29 i0 _ 24 Try.underlying23 HI.out hz0 hz1 hz2 rfl u5 M _ rfl HO2.out (some ⟨w2.heap.size, 0, none⟩) 1 [(n, s)] rfl HX2.out (by show M + 1 ≤ _; unfold maxLen; omega) (by show (M + 1) * 24 ≤ _; omega) hsa ?_; intro v3 w3 hown3 hgrow3))
        have HLt := World.ownsRow.lt HO.out
        have HR3 := (HR2.out.alloc (.cells #[.int .i64 n, .string s] 29)).out (Out.of_grown hgrow3 HLt) (.inl (Nat.lt_succ_self _))
        have b3 := (b2.alloc (by omega) (.cells #[.int .i64 n, .string s] 29)).grown hgrow3 (by simp; omega) (fun j hj => by have := (HLt j hj).1; omega)
        have hs3 := hgrow3.size
        simp only [World.size_alloc] at hs3
        have HR3' := Lib.hid HR3
        have HO3 := Lib.hid hown3
        clear HLt HR3 hgrow3 hown3
        go_roundw
        case rel => exact ⟨k + 1, by go_num, by omega, by rw [HF.out, if_pos trivial, List.length_append, ccells_append, HM.out]; exact HO3.out, b3, by omega, HR3'.out⟩
        case measure => simp [intOf]; omega
    · have hge : N ≤ k := by omega
      have HE : Hid (wr.ownsRow (w.heap.size + 2) 29 2 u5 L.length (ccells L)) := Lib.hid (by
        have h1 := HO.out
        rwa [List.take_of_length_le (by have := HN.out; omega), HLL.out] at h1)
      obtain ⟨a4, c4, rfl⟩ := owns_slice HE.out
      have x0 := HR.out.get 0 _ rfl
      have y0 := HR.out.free
      clear HO
      go_wp2_with fail
      have HO6 := owns_set_lt HE.out (p := ⟨w.heap.size + 1, 0, none⟩) (Nat.lt_succ_self _) (.slice a4 L.length c4)
      obtain ⟨a5, c5, he5, hc5, hn5⟩ := NewIn.of_owns HO6
      simp only [Value.slice.injEq, true_and] at he5
      obtain ⟨rfl, rfl⟩ := he5
      exact bodyPost_ret (v := .agg #[.slice a4 L.length c4]) (by simp [results, Try.results52, go_sem, x0]) rfl
        ⟨a4, c4, rfl, hc5, NewIn.wide (by simpa using hn5) (by omega) (by simp), hb.setCell (by simp) _⟩
set_option maxRecDepth 100000 in
set_option maxHeartbeats 4000000 in
theorem implQueueClear_any (a : Option Addr) (c : Nat) (q : List (Int × ByteArray)) (src : Int) (w : World) (h : CansIn w a q) (hok : CansOk q) (hlen : q.length ≤ 1048576) :
    Calls Try.prog 17 #[.agg #[.slice a q.length c], .int .i64 src] w (QNew w (clearL q src)) := by
  have HB := Lib.hid (fun o o' o2 : Obj => (((Below.refl w.heap.size w).alloc (Nat.le_refl _) o).alloc (by simp) o').alloc (by simp; omega) o2)
  have HQ := fun W hW => Lib.hid (implQueueRight_any a c q W hW hok hlen)
  have HC := Lib.hid h
  rcases hq : qRightB q
  · rw [hq] at HQ
    have hL : clearL q src = [] := by simp [clearL, hq]
    rw [hL]
    clear hL h hq
    go_enter Try.func17, Try.ntmps17
    go_wp2_with fail
    refine (HQ _ (HC.out.kept (HB.out _ _ _))).out.mono ?_
    rintro e w1 ⟨rfl, h1⟩
    have b1 := (HB.out _ _ _).trans (h1.mono (by simp; omega))
    have HR := (RowAt.new _ _ _).kept h1
    simp only [World.size_alloc] at HR
    have x0 := HR.get 0 _ rfl
    have y := HR.free
    clear HR h1
    go_wp2
    exact bodyPost_ret (v := .agg #[.slice none 0 0]) (by simp [results, Try.results17, go_sem, x0]) rfl
      ⟨none, 0, rfl, Nat.le_refl _, .inl rfl, b1.setCell (by simp <;> omega) _⟩
  rw [hq] at HQ
  have hL : clearL q src = q.filter (otherB src) := by simp [clearL, hq]
  obtain ⟨h16, hall⟩ := qRightB_of hq
  have HSM : Hid (CansSmall (clearL q src)) := Lib.hid (by
    intro x hx
    rw [hL] at hx
    exact CansSmall.of_all hall x ((List.mem_filter.1 hx).1))
  have HLe : Hid ((clearL q src).length ≤ 1048576) := Lib.hid (by
    rw [hL]
    have := List.length_filter_le (otherB src) q
    omega)
  have HO := fun P W hW hP hc => Lib.hid (only_any a c q src P W hW h16 hall hP hc)
  rw [← hL] at HO
  generalize clearL q src = L at *
  clear hL h h16 hall hq
  go_enter Try.func17, Try.ntmps17
  go_wp2_with fail
  refine (HQ _ (HC.out.kept (HB.out _ _ _))).out.mono ?_
  rintro e w1 ⟨rfl, h1⟩
  have b1 := (HB.out _ _ _).trans (h1.mono (by simp; omega))
  have HR := (RowAt.new _ _ _).kept h1
  have HP := ((RowAt.new _ #[.int .i64 src] 2).alloc _).kept h1
  have HA := (((RowAt.new w #[.slice a q.length c] 25).alloc _).alloc _).kept h1
  simp only [World.size_alloc] at HR HP
  have HR1 := Lib.hid HR
  have HP1 := Lib.hid HP
  have e1 := HA.get 0 _ rfl
  clear HR HP HA h1
  go_wp2_with fail
  refine (waitingIn_any _ ⟨_, _, _, rfl⟩ _).mono ?_
  rintro e w2 ⟨rfl, h2⟩
  have b2 := b1.trans (h2.mono b1.size)
  have HR2 := Lib.hid (HR1.out.kept h2)
  have HP2 := HP1.out.kept h2
  have HPl := Lib.hid HP2.lt
  have HPc := Lib.hid (HP2.get 0 _ rfl)
  clear h2 e1 HR1 HP1 HP2
  go_wp2_with fail
  refine (HO _ _ (HC.out.kept b2) HPl.out HPc.out).out.mono ?_
  rintro e w3 ⟨a3, c3, rfl, hc3, hn3, h3⟩
  have b3 := b2.trans (h3.mono b2.size)
  have HR3 := Lib.hid (HR2.out.kept h3)
  have HN3 := Lib.hid hn3
  clear h3 HR2 hn3 hc3
  go_wp2_with fail
  refine (freshQueue_any a3 c3 L _ HN3.out.cans HSM.out HLe.out).mono ?_
  rintro e w4 ⟨a4, c4, rfl, hc4, hn4, h4⟩
  have b4 := b3.trans (h4.mono b3.size)
  have HR4 := HR3.out.kept h4
  have hlo := b3.size
  have hR := HR3.out.lt
  have x0 := HR4.get 0 _ rfl
  have y := HR4.free
  have HN4 := Lib.hid hn4
  have HC4 := Lib.hid hc4
  clear h4 HR3 HR4 HN3 hn4 hc4
  go_wp2
  refine bodyPost_ret (v := .agg #[.slice a4 L.length c4]) (by simp [results, Try.results17, go_sem, x0]) rfl
    ⟨a4, c4, rfl, HC4.out, ?_, b4.setCell (by simp <;> omega) _⟩
  refine NewIn.wide (lo := w3.heap.size) (hi := w4.heap.size) (NewIn.out (lo' := w.heap.size + 2) (hi' := w.heap.size + 3) HN4.out ?_ (.inr (by omega))) (by omega) (by simp)
  exact (Out.refl _ _ _).setCell (by simp) (by simp) _
end Go.Proofs.Ytmfnbbjhaolhgaa
