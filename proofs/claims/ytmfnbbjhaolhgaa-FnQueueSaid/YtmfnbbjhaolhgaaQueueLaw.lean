/- The law's own lwCans and lwQueue; what goes out rises. Nothing that was there is written. -/
import Derived.Test.YtmfnbbjhaolhgaaSpecTake
import Derived.BigQuiet
namespace Go.Proofs.Ytmfnbbjhaolhgaa
open Go.RowKit Go.Joins
set_option linter.unusedVariables false

theorem takeL_of {q : List (Int × ByteArray)} (h : takeCode q = 0) : takeL q = q.take (takeAt q) ++ q.drop (takeAt q + 1) := if_pos h
theorem takeL_sub {q : List (Int × ByteArray)} (h : takeCode q = 0) : ∀ x ∈ takeL q, x ∈ q := by
  intro x hx
  rw [takeL_of h] at hx
  rcases List.mem_append.1 hx with hx | hx
  · exact List.mem_of_mem_take hx
  · exact List.mem_of_mem_drop hx
theorem takeL_len {q : List (Int × ByteArray)} (h : takeCode q = 0) : (takeL q).length + 1 = q.length := by
  have h1 := takeAt_lt (takeCode_zero h).2
  rw [takeL_of h]
  simp
  omega
theorem takeL_right {q : List (Int × ByteArray)} (h : takeCode q = 0) : qRightB (takeL q) = true := by
  obtain ⟨h1, h2⟩ := qRightB_of (takeCode_zero h).1
  have h3 := takeL_len h
  unfold qRightB
  rw [show decide ((takeL q).length ≤ 16) = true from decide_eq_true (by omega), Bool.true_and]
  unfold allB at h2 ⊢
  rw [List.all_eq_true] at h2 ⊢
  exact fun x hx => h2 x (takeL_sub h x hx)
theorem takeC_of {q : List (Int × ByteArray)} (h : takeCode q = 0) : takeC q = canAt q (takeAt q) := if_pos h
theorem takeC_mem {q : List (Int × ByteArray)} (h : takeCode q = 0) : takeC q ∈ q := by
  rw [takeC_of h]
  exact List.mem_of_getElem? (canAt_some (takeAt_lt (takeCode_zero h).2))
theorem takeC_least {q : List (Int × ByteArray)} (h : takeCode q = 0) : ∀ x ∈ q, (takeC q).1 ≤ x.1 := by
  intro x hx
  obtain ⟨i, hi, rfl⟩ := List.mem_iff_getElem.1 hx
  rw [takeC_of h]
  have := best_least q (q.length - 1) i (by omega)
  rw [show canAt q i = q[i] by unfold canAt; rw [List.getElem?_eq_getElem hi]; rfl] at this
  exact this
theorem putL_len {q l : List (Int × ByteArray)} (h : putCode q l = 0) : (putL q l).length = q.length + l.length := by
  unfold putL
  rw [if_pos h]
  simp
theorem putL_right {q l : List (Int × ByteArray)} (h : putCode q l = 0) : qRightB (putL q l) = true := by
  obtain ⟨h1, h2, h3, h4⟩ := putCode_zero h
  unfold putL
  rw [if_pos h]
  unfold qRightB
  rw [show decide ((q ++ l).length ≤ 16) = true from decide_eq_true (by simp; omega), Bool.true_and]
  have h5 := (qRightB_of h2).2
  unfold allB at h3 h5 ⊢
  rw [List.all_append, h3, h5]
  rfl

/-- Below w's own blocks nothing has turned; the variables rs hold what they hold; the rows cs hold their Cans. -/
structure Hold (w W : World) (rs : List (Nat × List Value)) (cs : List (Option Addr × List (Int × ByteArray))) : Prop where
  below : Below w.heap.size w W
  row : ∀ r ∈ rs, RowAt W r.1 r.2
  cans : ∀ c ∈ cs, CansIn W c.1 c.2
section
variable {w W W' : World} {rs : List (Nat × List Value)} {cs : List (Option Addr × List (Int × ByteArray))}
theorem Hold.first (h : Below w.heap.size w W) : Hold w W [] [] := ⟨h, fun r hr => (by cases hr), fun n hn => (by cases hn)⟩
theorem Hold.kept (h : Hold w W rs cs) (hb : Below W.heap.size W W') : Hold w W' rs cs :=
  ⟨h.below.trans (hb.mono h.below.size), fun r hr => (h.row r hr).kept hb, fun n hn => (h.cans n hn).kept hb⟩
theorem Hold.addRow (h : Hold w W rs cs) (vs : Array Value) (T : TypeId) : Hold w (W.alloc (.cells vs T)) ((W.heap.size, vs.toList) :: rs) cs :=
  have h' := h.kept ((Below.refl _ _).alloc (Nat.le_refl _) (.cells vs T))
  ⟨h'.below, fun r hr => by
    rcases List.mem_cons.1 hr with rfl | hr
    · exact RowAt.new W vs T
    · exact h'.row r hr, h'.cans⟩
theorem Hold.addCans {a : Option Addr} {l : List (Int × ByteArray)} (h : Hold w W rs cs) (hn : CansIn W a l) : Hold w W rs ((a, l) :: cs) :=
  ⟨h.below, h.row, fun n h' => by
    rcases List.mem_cons.1 h' with rfl | h'
    · exact hn
    · exact h.cans n h'⟩
theorem Hold.get {R : Nat} {vs : List Value} (h : Hold w W rs cs) (hm : (R, vs) ∈ rs) (j : Nat) (u : Value) (hu : vs[j]? = some u) : W.cell? ⟨R, j, none⟩ = some u := (h.row _ hm).get j u hu
theorem Hold.lt {R : Nat} {vs : List Value} (h : Hold w W rs cs) (hm : (R, vs) ∈ rs) : R < W.heap.size := (h.row _ hm).lt
theorem Hold.in {a : Option Addr} {l : List (Int × ByteArray)} (h : Hold w W rs cs) (hm : (a, l) ∈ cs) : CansIn W a l := h.cans _ hm
end
/-- The Cans behind a, in a block below B. -/
def CansLt (B : Nat) (W : World) (a : Option Addr) (l : List (Int × ByteArray)) : Prop :=
  l = [] ∨ ∃ b o, a = some ⟨b, o, none⟩ ∧ b < B ∧ b < W.heap.size ∧ ∀ (i : Nat) x, l[i]? = some x → W.cell? ⟨b, o + i * 2, none⟩ = some (.int .i64 x.1) ∧ W.cell? ⟨b, o + i * 2 + 1, none⟩ = some (.string x.2)
section
variable {B C : Nat} {W W' : World} {a : Option Addr} {l : List (Int × ByteArray)}
theorem CansLt.of (h : CansIn W a l) : CansLt W.heap.size W a l := by
  rcases h with h | ⟨b, o, rfl, hlt, hc⟩
  · exact .inl h
  · exact .inr ⟨b, o, rfl, hlt, hlt, hc⟩
theorem CansLt.cans (h : CansLt B W a l) : CansIn W a l := by
  rcases h with h | ⟨b, o, rfl, _, hlt, hc⟩
  · exact .inl h
  · exact .inr ⟨b, o, rfl, hlt, hc⟩
theorem CansLt.kept (h : CansLt B W a l) (hb : Below C W W') (hC : B ≤ C) : CansLt B W' a l := by
  rcases h with h | ⟨b, o, rfl, h1, hlt, hc⟩
  · exact .inl h
  · have hbC : b < C := by omega
    exact .inr ⟨b, o, rfl, h1, Nat.lt_of_lt_of_le hlt hb.size, fun i x hx => ⟨(hb.cell (p := ⟨b, _, none⟩) hbC).trans (hc i x hx).1, (hb.cell (p := ⟨b, _, none⟩) hbC).trans (hc i x hx).2⟩⟩
end
theorem RowAt.put4 {W : World} {R : Nat} {v0 v1 v2 v3 : Value} (h : RowAt W R [v0, v1, v2, v3]) (u0 u1 u2 u3 : Value) :
    RowAt ((((W.setCell ⟨R, 0, none⟩ u0).setCell ⟨R, 1, none⟩ u1).setCell ⟨R, 2, none⟩ u2).setCell ⟨R, 3, none⟩ u3) R [u0, u1, u2, u3] := by
  have c0 := h.get 0 _ rfl
  have c1 := h.get 1 _ rfl
  have c2 := h.get 2 _ rfl
  have c3 := h.get 3 _ rfl
  refine ⟨by simpa [World.setCell] using h.lt, fun j x hx => ?_, fun j => by simp only [World.frozen?_setCell]; exact h.free j⟩
  match j, hx with
  | 0, hx =>
    obtain rfl : u0 = x := by simpa using hx
    rw [World.cell?_setCell_other _ _ _ _ (by simp), World.cell?_setCell_other _ _ _ _ (by simp), World.cell?_setCell_other _ _ _ _ (by simp)]
    exact World.cell?_setCell_same _ _ _ c0
  | 1, hx =>
    obtain rfl : u1 = x := by simpa using hx
    rw [World.cell?_setCell_other _ _ _ _ (by simp), World.cell?_setCell_other _ _ _ _ (by simp)]
    exact World.cell?_setCell_same _ _ _ (by rw [World.cell?_setCell_other _ _ _ _ (by simp)]; exact c1)
  | 2, hx =>
    obtain rfl : u2 = x := by simpa using hx
    rw [World.cell?_setCell_other _ _ _ _ (by simp)]
    exact World.cell?_setCell_same _ _ _ (by rw [World.cell?_setCell_other _ _ _ _ (by simp), World.cell?_setCell_other _ _ _ _ (by simp)]; exact c2)
  | 3, hx =>
    obtain rfl : u3 = x := by simpa using hx
    exact World.cell?_setCell_same _ _ _ (by rw [World.cell?_setCell_other _ _ _ _ (by simp), World.cell?_setCell_other _ _ _ _ (by simp), World.cell?_setCell_other _ _ _ _ (by simp)]; exact c3)
  | (j + 4), hx => simp at hx
theorem NewIn.put4 {W : World} {lo hi R : Nat} {a : Option Addr} {l : List (Int × ByteArray)} (h : NewIn lo hi W a l) (hd : hi ≤ R ∨ R + 1 ≤ lo) (u0 u1 u2 u3 : Value) :
    NewIn lo hi ((((W.setCell ⟨R, 0, none⟩ u0).setCell ⟨R, 1, none⟩ u1).setCell ⟨R, 2, none⟩ u2).setCell ⟨R, 3, none⟩ u3) a l := by
  have h1 := (Out.refl R (R + 1) W).setCell (p := ⟨R, 0, none⟩) (Nat.le_refl _) (Nat.lt_succ_self _) u0
  have h2 := h1.setCell (p := ⟨R, 1, none⟩) (Nat.le_refl _) (Nat.lt_succ_self _) u1
  have h3 := h2.setCell (p := ⟨R, 2, none⟩) (Nat.le_refl _) (Nat.lt_succ_self _) u2
  exact h.out (h3.setCell (p := ⟨R, 3, none⟩) (Nat.le_refl _) (Nat.lt_succ_self _) u3) hd
theorem right_lo {l : List (Int × ByteArray)} (h : qRightB l = true) : ∀ x ∈ l, -1 ≤ x.1 := by
  intro x hx
  have h2 := (qRightB_of h).2
  unfold allB at h2
  rw [List.all_eq_true] at h2
  have := (ofB_iff x.1).1 (canB_of (h2 x hx)).1
  omega
theorem not_right_pos {l : List (Int × ByteArray)} (h : qRightB l = false) : 0 < l.length := by
  rcases l with _ | ⟨x, l⟩
  · simp [qRightB, allB] at h
  · simp
theorem run_field_queue (a : Option Addr) (n c : Nat) (w : World) : (Instr.field 25 (.agg #[.slice a n c]) 0).run Try.prog w = .ok (.slice a n c) w := by
  simp [Instr.field, asAgg, go_sem]
set_option maxRecDepth 100000 in
set_option maxHeartbeats 2000000 in
theorem lwCans_same (a a' : Option Addr) (cap cap' : Nat) (l : List (Int × ByteArray)) (w : World) (h : CansIn w a l) (h' : CansIn w a' l) (hlen : l.length ≤ 1048576) :
    Calls Try.prog 16 #[.slice a l.length cap, .slice a' l.length cap'] w fun e w' => e = .returned (.bool true) ∧ Below w.heap.size w w' := by
  obtain ⟨N, hN⟩ : ∃ N, l.length = N := ⟨_, rfl⟩
  have HN := Lib.hid hN
  rcases Nat.eq_zero_or_pos N with hN0 | hN0
  · rw [hN]
    subst hN0
    clear hN hlen h h'
    go_enter Try.func16, Try.ntmps16
    go_wp2
    refine wp_loop_rounds 1 ?_
    rw [rounds_succ]; go_wp2
    go_ret
    exact ⟨rfl, Below.refl _ _⟩
  rcases h with rfl | ⟨b, o, rfl, hlt, hc⟩
  · simp at hN
    omega
  rcases h' with rfl | ⟨b', o', rfl, hlt', hc'⟩
  · simp at hN
    omega
  have HI := Lib.hid hc
  have HI' := Lib.hid hc'
  clear hc hc'
  rw [hN] at hlen ⊢
  clear hN
  go_enter Try.func16, Try.ntmps16
  go_wp2
  go_loopw [5] (fun i wr => ∃ k : Nat, i = .int .i64 (k : Int) ∧ k ≤ N ∧ Below w.heap.size w wr ∧ (∀ p, wr.cell? p = w.cell? p)) (fun i _ => N - (intOf i).toNat)
  case atStart => exact ⟨0, rfl, by omega, Below.refl _ _, fun _ => rfl⟩
  case round =>
    obtain ⟨k, rfl, hk, hb, hsame⟩ := hrel
    have HA := Lib.hid hsame
    by_cases hkn : k < N
    · have hkl : k < l.length := by have := HN.out; omega
      have d0 := (hsame _).trans (HI.out k _ (canAt_some hkl)).1
      have d1 := (hsame _).trans (HI.out k _ (canAt_some hkl)).2
      have d2 := (hsame _).trans (HI'.out k _ (canAt_some hkl)).1
      have d3 := (hsame _).trans (HI'.out k _ (canAt_some hkl)).2
      have hi1 : (0 : Int) ≤ (k : Int) := by omega
      have hi2 : (k : Int) < (N : Int) := by omega
      generalize canAt l k = x at *
      obtain ⟨n, s⟩ := x
      simp only at d0 d1 d2 d3
      clear hsame
      go_wp2_with fail
      go_quiet (fail)
      go_wp2
      go_roundw
      case rel => exact ⟨k + 1, by go_num, by omega, below_drewN hb _, HA.out⟩
      case measure => simp [intOf]; omega
    · clear hsame
      go_wp2
      go_ret
      exact ⟨rfl, hb⟩
set_option maxRecDepth 100000 in
set_option maxHeartbeats 2000000 in
theorem lwQueue_same (a a' : Option Addr) (cap cap' : Nat) (l : List (Int × ByteArray)) (n : Int) (s : ByteArray) (k : Int) (w : World) (h : CansIn w a l) (h' : CansIn w a' l) (hok : CansOk l) (hlen : l.length ≤ 1048576) (hk : k = 0 → qRightB l = true) :
    Calls Try.prog 13 #[.agg #[.slice a l.length cap, .int .i64 n, .string s, .int .i64 k], .agg #[.slice a' l.length cap', .int .i64 n, .string s, .int .i64 k]] w fun e w' => e = .returned (.bool true) ∧ Below w.heap.size w w' := by
  have HC := Lib.hid h
  have HC' := Lib.hid h'
  have HB := Lib.hid (fun o o' : Obj => ((Below.refl w.heap.size w).alloc (Nat.le_refl _) o).alloc (by simp) o')
  have HQ := fun W hW => Lib.hid (specQueueRight_any a cap l W hW hok hlen)
  clear h h'
  by_cases hk0 : k = 0
  · subst hk0
    rw [hk rfl] at HQ
    clear hk
    go_enter Try.func13, Try.ntmps13
    go_wp2_with fail
    refine (lwCans_same a a' cap cap' l _ (HC.out.kept (HB.out _ _)) (HC'.out.kept (HB.out _ _)) hlen).mono ?_
    rintro e w1 ⟨rfl, h1⟩
    have b1 := (HB.out _ _).trans (h1.mono (by simp; omega))
    have HX := ((RowAt.new _ _ _).alloc _).kept h1
    have HY := (RowAt.new _ _ _).kept h1
    simp only [World.size_alloc] at HY
    have x0 := HX.get 0 _ rfl
    have x1 := HX.get 1 _ rfl
    have x2 := HX.get 2 _ rfl
    have x3 := HX.get 3 _ rfl
    have y0 := HY.get 0 _ rfl
    have y1 := HY.get 1 _ rfl
    have y2 := HY.get 2 _ rfl
    have y3 := HY.get 3 _ rfl
    clear HX HY h1
    go_wp2_with fail
    refine (HQ _ (HC.out.kept b1)).out.mono ?_
    rintro e w2 ⟨rfl, h2⟩
    go_wp2
    go_ret
    exact ⟨rfl, b1.trans (h2.mono b1.size)⟩
  · have hd : (k == 0) = false := beq_eq_false_iff_ne.2 hk0
    have hd2 : (k != 0) = true := by simp [bne, hd]
    clear hk
    go_enter Try.func13, Try.ntmps13
    go_wp2_with fail
    refine (lwCans_same a a' cap cap' l _ (HC.out.kept (HB.out _ _)) (HC'.out.kept (HB.out _ _)) hlen).mono ?_
    rintro e w1 ⟨rfl, h1⟩
    have b1 := (HB.out _ _).trans (h1.mono (by simp; omega))
    have HX := ((RowAt.new _ _ _).alloc _).kept h1
    have HY := (RowAt.new _ _ _).kept h1
    simp only [World.size_alloc] at HY
    have x0 := HX.get 0 _ rfl
    have x1 := HX.get 1 _ rfl
    have x2 := HX.get 2 _ rfl
    have x3 := HX.get 3 _ rfl
    have y0 := HY.get 0 _ rfl
    have y1 := HY.get 1 _ rfl
    have y2 := HY.get 2 _ rfl
    have y3 := HY.get 3 _ rfl
    clear HX HY h1
    go_wp2_with fail
    go_ret
    exact ⟨rfl, b1⟩
end Go.Proofs.Ytmfnbbjhaolhgaa
