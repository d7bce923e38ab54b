/- The model's QueueClear and what it calls. Nothing that was there is written. -/
import Derived.Test.YtmfnbbjhaolhgaaQueueClear
import Derived.Deep.RegionLaw
namespace Go.Proofs.Ytmfnbbjhaolhgaa
open Go.RowKit Go.Joins
set_option linter.unusedVariables false

theorem RowAt.set1 {W : World} {R : Nat} {v : Value} (h : RowAt W R [v]) (u : Value) : RowAt (W.setCell ⟨R, 0, none⟩ u) R [u] :=
  ⟨by simpa [World.setCell] using h.lt, fun j x hx => by
    match j, hx with
    | 0, hx =>
      obtain rfl : u = x := by simpa using hx
      exact World.cell?_setCell_same _ _ _ (h.get 0 _ rfl)
    | (j + 1), hx => simp at hx, fun j => by rw [World.frozen?_setCell]; exact h.free j⟩

set_option maxRecDepth 100000 in
set_option maxHeartbeats 4000000 in
theorem l03Clear_any (a : Option Addr) (c : Nat) (q : List (Int × ByteArray)) (src : Int) (w : World) (h : CansIn w a q) (hlen : q.length ≤ 16) (hall : allB q = true) :
    Calls Try.prog 53 #[.agg #[.slice a q.length c], .int .i64 src] w (QNew w (q.filter (otherB src))) := by
  obtain ⟨i0, hi, hz0, hz1, hz2⟩ := info_parts CansTo.info
  have HI := Lib.hid hi
  have HB := Lib.hid (fun o o' o2 : Obj => (((Below.refl w.heap.size w).alloc (Nat.le_refl _) o).alloc (by simp) o').alloc (by simp; omega) o2)
  obtain ⟨N, hN⟩ : ∃ N, q.length = N := ⟨_, rfl⟩
  have HN := Lib.hid hN
  have HH := Lib.hid h
  have HA := Lib.hid hall
  obtain ⟨L, hL⟩ : ∃ L, q.filter (otherB src) = L := ⟨_, rfl⟩
  have HLL := Lib.hid hL
  rw [hL]
  rw [hN] at hlen ⊢
  have ra := ((RowAt.new w #[.slice a N c] 25).alloc (.cells #[.slice none 0 0] 25)).alloc (.cells #[.slice none 0 0] 25)
  have rr := (RowAt.new (w.alloc (.cells #[.slice a N c] 25)) #[.slice none 0 0] 25).alloc (.cells #[.slice none 0 0] 25)
  have rv := RowAt.new ((w.alloc (.cells #[.slice a N c] 25)).alloc (.cells #[.slice none 0 0] 25)) #[.slice none 0 0] 25
  simp only [World.size_alloc] at ra rr rv
  have RA := Lib.hid ra
  have RR := Lib.hid rr
  have RV := Lib.hid rv
  clear hL hN h hi hall ra rr rv
  go_enter Try.func53, Try.ntmps53
  go_wp2_with fail
  have b0 := HB.out (.cells #[.slice a N c] 25) (.cells #[.slice none 0 0] 25) (.cells #[.slice none 0 0] 25)
  have hs0 : (((w.alloc (.cells #[.slice a N c] 25)).alloc (.cells #[.slice none 0 0] 25)).alloc (.cells #[.slice none 0 0] 25)).heap.size = w.heap.size + 1 + 1 + 1 := by simp
  generalize (((w.alloc (.cells #[.slice a N c] 25)).alloc (.cells #[.slice none 0 0] 25)).alloc (.cells #[.slice none 0 0] 25)) = W0 at *
  have hV1 : w.heap.size + 1 < w.heap.size + 1 + 1 := Nat.lt_succ_self _
  generalize w.heap.size + 1 + 1 = V at *
  have HS0 := Lib.hid hs0
  clear hs0
  go_loopw [6] (fun i wr => ∃ (k : Nat) (t : Value), i = .int .i64 (k : Int) ∧ k ≤ N ∧ wr.ownsRow (V + 1) 29 2 t ((q.take k).filter (otherB src)).length (ccells ((q.take k).filter (otherB src))) ∧ Below w.heap.size w wr ∧ V + 1 ≤ wr.heap.size ∧ RowAt wr w.heap.size [.slice a N c] ∧ RowAt wr (w.heap.size + 1) [.slice none 0 0] ∧ RowAt wr V [t]) (fun i _ => N - (intOf i).toNat)
  case atStart => exact ⟨0, _, rfl, by omega, by simpa [ccells] using World.ownsRow_nil W0 (V + 1) 29 2, b0, by have := HS0.out; omega, RA.out, RR.out, RV.out⟩
  case round =>
    obtain ⟨k, t, rfl, hk, hown, hb, hsz, hra, hrr, hrv⟩ := hrel
    obtain ⟨a1, c1, rfl⟩ := owns_slice hown
    have e0 := hra.get 0 _ rfl
    have v0 := hrv.get 0 _ rfl
    have v1 := hrv.free
    have HO := Lib.hid hown
    have HRA := Lib.hid hra
    have HRR := Lib.hid hrr
    have HRV := Lib.hid hrv
    clear hown hra hrr hrv
    have la : w.heap.size < wr.heap.size := by omega
    have lv : V < wr.heap.size := by omega
    by_cases hkn : k < N
    · have hkl : k < q.length := by have := HN.out; omega
      obtain ⟨b, o, rfl, hlt, hc2⟩ : ∃ b o, a = some ⟨b, o, none⟩ ∧ b < w.heap.size ∧ ∀ (i : Nat) x, q[i]? = some x → w.cell? ⟨b, o + i * 2, none⟩ = some (.int .i64 x.1) ∧ w.cell? ⟨b, o + i * 2 + 1, none⟩ = some (.string x.2) := by
        rcases HH.out with h | h
        · rw [h] at hkl
          simp at hkl
        · exact h
      have d0 := (hb.cell (p := ⟨b, _, none⟩) hlt).trans (hc2 k _ (canAt_some hkl)).1
      have d1 := (hb.cell (p := ⟨b, _, none⟩) hlt).trans (hc2 k _ (canAt_some hkl)).2
      have hcan : canB (canAt q k).1 (canAt q k).2 = true := by
        have h1 := HA.out
        unfold allB at h1
        rw [List.all_eq_true] at h1
        exact h1 _ (List.mem_of_getElem? (canAt_some hkl))
      have HF := Lib.hid (filter_succ (src := src) hkl)
      have HFL := Lib.hid (filter_le q src k)
      obtain ⟨x, hx⟩ : ∃ x, canAt q k = x := ⟨_, rfl⟩
      rw [hx] at d0 d1 hcan HF
      clear hx hc2
      obtain ⟨n, s⟩ := x
      simp only at d0 d1 hcan
      have hbw : b < wr.heap.size := by omega
      obtain ⟨g1, g2, _⟩ := (ofB_iff n).1 (canB_of hcan).1
      have hi1 : (0 : Int) ≤ (k : Int) := by omega
      have hi2 : (k : Int) < (N : Int) := by omega
      obtain ⟨d, hd⟩ : ∃ d : Bool, (n % 256 != src) = d := ⟨_, rfl⟩
      rw [show otherB src (n, s) = d from hd] at HF
      clear hcan
      obtain ⟨F, hF⟩ : ∃ F, (q.take k).filter (otherB src) = F := ⟨_, rfl⟩
      rw [hF] at v0 HO HF HFL HRV
      clear hF
      cases d
      · go_wp2_with fail
        go_roundw
        case rel => exact ⟨k + 1, _, by go_num, by omega, by rw [HF.out]; simpa using HO.out, hb, hsz, HRA.out, HRR.out, HRV.out⟩
        case measure => simp [intOf]; omega
      · have HOa := Lib.hid (owns_below (World.ownsRow.alloc HO.out (.cells #[.int .i64 n, .string s] 29)) (Below.refl _ _).drew)
        have HXa := Lib.hid (show CansIn (wr.alloc (.cells #[.int .i64 n, .string s] 29)).drew (some ⟨wr.heap.size, 0, none⟩) [(n, s)] from .inr ⟨wr.heap.size, 0, rfl, by simp, fun i x hx => by
          have hr := RowAt.new wr #[.int .i64 n, .string s] 29
          match i, hx with
          | 0, hx =>
            obtain rfl : (n, s) = x := by simpa using hx
            exact ⟨hr.get 0 _ rfl, hr.get 1 _ rfl⟩
          | (i + 1), hx => simp at hx⟩)
        have hfl := HFL.out
        have hsa : V + 1 ≤ (wr.alloc (.cells #[.int .i64 n, .string s] 29)).drew.heap.size := by simp; omega
        go_wp2_with fail
        go_region_law (refine step_append_cans (by rfl) _ _ 23 (by rfl) (V + 1) 29 i0 _ 24 Try.underlying23 HI.out hz0 hz1 hz2 rfl (.slice a1 F.length c1) F.length (ccells F) (by rfl) HOa.out (some ⟨wr.heap.size, 0, none⟩) 1 [(n, s)] (by rfl) HXa.out (by show F.length + 1 ≤ _; unfold maxLen; omega) (by show (F.length + 1) * 24 ≤ _; omega) hsa ?_; intro v5 w5 hown5 hg5; obtain ⟨a5, c5, rfl⟩ := owns_slice hown5; have HLt := World.ownsRow.lt HO.out; have hO5 : Out (V + 1) wr.heap.size (wr.alloc (.cells #[.int .i64 n, .string s] 29)).drew w5 := Out.of_grown hg5 HLt; have HV5 := ((HRV.out.alloc (.cells #[.int .i64 n, .string s] 29)).drew).out hO5 (.inl (Nat.lt_succ_self _)); have y0 := HV5.get 0 _ rfl; have y1 := HV5.free)
        all_goals
          have HV6 := Lib.hid (HV5.set1 (.slice a5 (F.length + 1) c5))
          have HA6 := Lib.hid ((((HRA.out.alloc (.cells #[.int .i64 n, .string s] 29)).drew).out hO5 (.inl (by omega))).setOther (p := ⟨V, 0, none⟩) (show V ≠ w.heap.size by omega) (.slice a5 (F.length + 1) c5))
          have HR6 := Lib.hid ((((HRR.out.alloc (.cells #[.int .i64 n, .string s] 29)).drew).out hO5 (.inl (by omega))).setOther (p := ⟨V, 0, none⟩) (show V ≠ w.heap.size + 1 by omega) (.slice a5 (F.length + 1) c5))
          have HO6 := Lib.hid (owns_set_lt hown5 (p := ⟨V, 0, none⟩) (Nat.lt_succ_self V) (.slice a5 (F.length + 1) c5))
          have b6 := (hO5.below ((hb.alloc (by omega) (.cells #[.int .i64 n, .string s] 29)).drew) (by omega) (by simp; omega)).setCell (p := ⟨V, 0, none⟩) (show w.heap.size ≤ V by omega) (.slice a5 (F.length + 1) c5)
          have hs5 := hO5.size
          simp at hs5
          have hs6 : V + 1 ≤ (w5.setCell ⟨V, 0, none⟩ (.slice a5 (F.length + 1) c5)).heap.size := by simp; omega
          clear HV5 hO5 hown5 hg5 HLt HOa HXa v0 v1 e0 y0 y1 hs5
          go_wp2
          go_roundw
          case rel => exact ⟨k + 1, _, by go_num, by omega, by rw [HF.out, if_pos trivial, List.length_append, ccells_append]; exact HO6.out, b6, hs6, HA6.out, HR6.out, HV6.out⟩
          case measure => simp [intOf]; omega
    · have hge : N ≤ k := by omega
      have e := List.take_of_length_le (l := q) (i := k) (by have := HN.out; omega)
      rw [e, HLL.out] at v0 HO HRV
      have x0 := HRR.out.get 0 _ rfl
      have x1 := HRR.out.free
      clear e HRV HRA
      go_wp2_with fail
      have HO6 := owns_set_lt HO.out (p := ⟨w.heap.size + 1, 0, none⟩) (show w.heap.size + 1 < V + 1 by omega) (.slice a1 L.length c1)
      obtain ⟨a5, c5, he5, hc5, hn5⟩ := NewIn.of_owns HO6
      simp only [Value.slice.injEq, true_and] at he5
      obtain ⟨rfl, rfl⟩ := he5
      exact bodyPost_ret (v := .agg #[.slice a1 L.length c1]) (by simp [results, Try.results53, go_sem, x0]) rfl
        ⟨a1, c1, rfl, hc5, NewIn.wide (by simpa using hn5) (by omega) (by simp), hb.setCell (by simp) _⟩
set_option maxRecDepth 100000 in
set_option maxHeartbeats 4000000 in
theorem specQueueClear_any (a : Option Addr) (c : Nat) (q : List (Int × ByteArray)) (src : Int) (w : World) (h : CansIn w a q) (hok : CansOk q) (hlen : q.length ≤ 1048576) :
    Calls Try.prog 18 #[.agg #[.slice a q.length c], .int .i64 src] w (QNew w (clearL q src)) := by
  have HB := Lib.hid (fun o o' : Obj => ((Below.refl w.heap.size w).alloc (Nat.le_refl _) o).alloc (by simp) o')
  have HQ := fun W hW => Lib.hid (specQueueRight_any a c q W hW hok hlen)
  have HC := Lib.hid h
  rcases hq : qRightB q
  · rw [hq] at HQ
    have hL : clearL q src = [] := by simp [clearL, hq]
    rw [hL]
    clear hL h hq
    go_enter Try.func18, Try.ntmps18
    go_wp2_with fail
    refine (HQ _ (HC.out.kept (HB.out _ _))).out.mono ?_
    rintro e w1 ⟨rfl, h1⟩
    have b1 := (HB.out _ _).trans (h1.mono (by simp; omega))
    have HR := (RowAt.new _ _ _).kept h1
    simp only [World.size_alloc] at HR
    have x0 := HR.get 0 _ rfl
    have y := HR.free
    clear HR h1
    go_wp2
    exact bodyPost_ret (v := .agg #[.slice none 0 0]) (by simp [results, Try.results18, go_sem, x0]) rfl
      ⟨none, 0, rfl, Nat.le_refl _, .inl rfl, b1.setCell (by simp <;> omega) _⟩
  rw [hq] at HQ
  have hL : clearL q src = q.filter (otherB src) := by simp [clearL, hq]
  obtain ⟨h16, hall⟩ := qRightB_of hq
  have HO := fun W hW => Lib.hid (l03Clear_any a c q src W hW h16 hall)
  rw [← hL] at HO
  generalize clearL q src = L at *
  clear hL h h16 hall hq
  go_enter Try.func18, Try.ntmps18
  go_wp2_with fail
  refine (HQ _ (HC.out.kept (HB.out _ _))).out.mono ?_
  rintro e w1 ⟨rfl, h1⟩
  have b1 := (HB.out _ _).trans (h1.mono (by simp; omega))
  have HR := (RowAt.new _ _ _).kept h1
  have HA := ((RowAt.new w #[.slice a q.length c] 25).alloc _).kept h1
  simp only [World.size_alloc] at HR
  have HR1 := Lib.hid HR
  have e1 := HA.get 0 _ rfl
  clear HR HA h1
  go_wp2_with fail
  refine (HO _ (HC.out.kept b1)).out.mono ?_
  rintro e w4 ⟨a4, c4, rfl, hc4, hn4, h4⟩
  have b4 := b1.trans (h4.mono b1.size)
  have HR4 := HR1.out.kept h4
  have hlo := b1.size
  have hR := HR1.out.lt
  have x0 := HR4.get 0 _ rfl
  have y := HR4.free
  have HN4 := Lib.hid hn4
  have HC4 := Lib.hid hc4
  clear h4 HR4 HR1 hn4 hc4
  go_wp2
  refine bodyPost_ret (v := .agg #[.slice a4 L.length c4]) (by simp [results, Try.results18, go_sem, x0]) rfl
    ⟨a4, c4, rfl, HC4.out, ?_, b4.setCell (by simp <;> omega) _⟩
  refine NewIn.wide (lo := w1.heap.size) (hi := w4.heap.size) (NewIn.out (lo' := w.heap.size + 1) (hi' := w.heap.size + 2) HN4.out ?_ (.inr (by omega))) (by omega) (by simp)
  exact (Out.refl _ _ _).setCell (by simp) (by simp) _
end Go.Proofs.Ytmfnbbjhaolhgaa
