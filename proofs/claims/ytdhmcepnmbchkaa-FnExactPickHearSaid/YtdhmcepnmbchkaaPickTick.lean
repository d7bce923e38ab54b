/- A Picker a tick later: the program's and the model's. Nothing that was there is written. -/
import Derived.Test.YtdhmcepnmbchkaaPickFresh
import Derived.StillTailTactics
namespace Go.Proofs.Ytdhmcepnmbchkaa
open Go.RowKit
set_option linter.unusedVariables false

/-- One cell of one item of a row is stored into. -/
theorem row_set {α : Type} {c : α → List Value} {s : Nat} (hs : ∀ x, (c x).length = s) {row : Array Value} {o k j : Nat} {l : List α} {x' : α} {v : Value} (hk : k < l.length) (hj : j < s) (hsz : o + l.length * s ≤ row.size)
    (hc : ∀ (i : Nat) x, l[i]? = some x → ∀ (m : Nat) u, (c x)[m]? = some u → row[o + i * s + m]? = some u)
    (hx : ∀ m u, (c x')[m]? = some u → (m = j ∧ u = v) ∨ (m ≠ j ∧ ∃ y, l[k]? = some y ∧ (c y)[m]? = some u)) :
    ∀ (i : Nat) x, (l.set k x')[i]? = some x → ∀ (m : Nat) u, (c x)[m]? = some u → (setAll row (o + k * s + j) [v])[o + i * s + m]? = some u := by
  intro i x hi m u hu
  have hms : m < s := by rw [← hs x]; exact (List.getElem?_eq_some_iff.1 hu).1
  by_cases hik : k = i
  · subst hik
    rw [List.getElem?_set_self hk] at hi
    obtain rfl := Option.some.inj hi
    rcases hx m u hu with ⟨rfl, rfl⟩ | ⟨hne, y, hy, hyu⟩
    · have h1 : k * s + s ≤ l.length * s := by rw [← Nat.succ_mul]; exact Nat.mul_le_mul_right s hk
      have := setAll_at [u] row (o + k * s + m) 0 u (by show _ + 1 ≤ _; omega) rfl
      simpa using this
    · rw [setAll_off _ _ _ _ (by rcases Nat.lt_or_gt_of_ne hne with h | h; exact .inl (by omega); exact .inr (by show _ + 1 ≤ _; omega))]
      exact hc k y hy m u hyu
  · rw [List.getElem?_set_ne hik] at hi
    have hne : o + i * s + m < o + k * s + j ∨ o + k * s + j + 1 ≤ o + i * s + m := by
      rcases Nat.lt_or_gt_of_ne hik with h | h
      · right
        have : k * s + s ≤ i * s := by rw [← Nat.succ_mul]; exact Nat.mul_le_mul_right s h
        omega
      · left
        have : i * s + s ≤ k * s := by rw [← Nat.succ_mul]; exact Nat.mul_le_mul_right s h
        omega
    rw [setAll_off _ _ _ _ (by rcases hne with h | h; exact .inl h; exact .inr h)]
    exact hc i x hi m u hu
def tickI (g : Int) : Int := if g + 1 < 1000000 then g + 1 else 1000000
def tickX (x : Hd) : Hd := ⟨x.s, x.n, tickI x.g⟩
/-- The first k are a tick older. -/
def tickTo (k : Nat) (l : List Hd) : List Hd := (l.take k).map tickX ++ l.drop k
theorem tickTo_zero (l : List Hd) : tickTo 0 l = l := rfl
theorem tickTo_length (k : Nat) (l : List Hd) : (tickTo k l).length = l.length := by simp [tickTo]; omega
theorem tickTo_at {k : Nat} {l : List Hd} (h : k < l.length) : (tickTo k l)[k]? = some (hdAt l k) := by
  unfold tickTo
  rw [List.getElem?_append_right (by simp; omega)]
  simp only [List.length_map, List.length_take, Nat.min_eq_left (Nat.le_of_lt h), Nat.sub_self, List.getElem?_drop, Nat.add_zero]
  exact hdAt_some h
theorem tickTo_succ {k : Nat} {l : List Hd} (h : k < l.length) : tickTo (k + 1) l = (tickTo k l).set k (tickX (hdAt l k)) := by
  unfold tickTo
  have h1 : l[k] = hdAt l k := by
    have := hdAt_some h
    rw [List.getElem?_eq_getElem h] at this
    exact Option.some.inj this
  have h2 : ((l.take k).map tickX).length = k := by simp; omega
  rw [List.take_succ_eq_append_getElem h, List.map_append, h1, List.append_assoc]
  rw [List.set_append_right _ _ (by omega), h2, Nat.sub_self, List.drop_eq_getElem_cons h]
  rfl
theorem tickTo_all (l : List Hd) : tickTo l.length l = tickH l := by
  unfold tickTo tickH
  rw [List.take_length, List.drop_length, List.append_nil]
  rfl
def tickV (r : List Int) (q : List Hd) : List Hd := if pkB r q = true then tickH q else []
def tickR (r : List Int) (q : List Hd) : List Int := if pkB r q = true then r else []
theorem wf_tick (g : Int) : tickI g ≤ 1000000 := by unfold tickI; split <;> omega
theorem l01Min_pk (a b : Int) (w : World) :
    Calls Try.prog 108 #[.int .i64 a, .int .i64 b] w fun e w' => e = .returned (.int .i64 (if a < b then a else b)) ∧ w = w' := by
  by_cases h : a < b
  · rw [if_pos h]
    have hd : decide (a < b) = true := decide_eq_true h
    clear h
    go_enter Try.func108, Try.ntmps108
    go_wp2_with fail
    go_ret
    exact ⟨rfl, rfl⟩
  · rw [if_neg h]
    have hd : decide (a < b) = false := decide_eq_false h
    clear h
    go_enter Try.func108, Try.ntmps108
    go_wp2_with fail
    go_ret
    exact ⟨rfl, rfl⟩
set_option maxRecDepth 100000 in
set_option maxHeartbeats 8000000 in
theorem implPickTick_any (a b : Option Addr) (c d : Nat) (r : List Int) (q : List Hd) (w : World) (h1 : NumsIn w a r) (h2 : RsIn hdL 3 w b q) (hr : r.length ≤ 1048576) (hq : q.length ≤ 1048576) (hc : r.length ≤ c) :
    Calls Try.prog 51 #[.agg #[.slice a r.length c, .slice b q.length d]] w fun e w' => ∃ a' c' b' d', e = .returned (.agg #[.slice a' (tickR r q).length c', .slice b' (tickV r q).length d']) ∧ PkNew w.heap.size w'.heap.size w' a' b' (tickR r q) (tickV r q) ∧ Below w.heap.size w w' := by
  have HPR := fun W h1 h2 => Lib.hid (implPickerRight_any a b c d r q W h1 h2 (by unfold maxLen; omega) (by unfold maxLen; omega) hc)
  have HCp := fun W h1 h2 => Lib.hid (freshPicker_any a b c d r q W h1 h2 hr hq)
  obtain ⟨V, hV⟩ : ∃ V, pkB r q = V := ⟨_, rfl⟩
  have HOK := Lib.hid (show V = true → ∀ i, i < q.length → 0 ≤ (hdAt q i).g ∧ (hdAt q i).g ≤ 1000000 from fun h i hi => (heardAt_of ((pkB_of (hV.trans h)).2.2 i hi)).2.2.1)
  have HTv := Lib.hid (show V = true → tickH q = tickV r q ∧ r = tickR r q from fun h => by unfold tickV tickR; rw [hV, if_pos h, if_pos h]; exact ⟨rfl, rfl⟩)
  have HTn := Lib.hid (show V = false → [] = tickV r q ∧ [] = tickR r q from fun h => by unfold tickV tickR; rw [hV, h]; exact ⟨rfl, rfl⟩)
  rw [hV] at HPR
  have HI := Lib.hid h1
  have HJ := Lib.hid h2
  clear hV h1 h2 hc
  generalize tickV r q = TV at *
  generalize tickR r q = TR at *
  obtain ⟨N, hN⟩ : ∃ N, r.length = N := ⟨_, rfl⟩
  obtain ⟨M, hM⟩ : ∃ M, q.length = M := ⟨_, rfl⟩
  have HN := Lib.hid hN
  have HM := Lib.hid hM
  rw [hN] at hr HPR HCp ⊢
  rw [hM] at hq HPR HCp ⊢
  clear hN hM
  go_enter Try.func51, Try.ntmps51
  go_wp2_with (first
    | (refine wpList_box_h rfl 67 (.tmp 0) rfl #[.slice a N c, .slice b M d] rfl ?_; intro w1 R1 e1 g1 b1; have HL1 := Lib.hid (show Lg w w1 [(R1, #[.slice a N c, .slice b M d], 67)] [] from (Lg.first w).box e1 g1 b1); clear g1 b1 e1)
    | (refine wpList_alloc_h rfl 67 rfl (.agg #[.slice none 0 0, .slice none 0 0]) (by kernel_rfl) #[.slice none 0 0, .slice none 0 0] rfl ?_; intro w2 R2 e2 g2 b2; have qR2_R1 : R1 < R2 := Nat.lt_of_lt_of_eq (HL1.out.lt (.head _)) e2; have HL2 := Lib.hid (show Lg w w2 [(R2, #[.slice none 0 0, .slice none 0 0], 67), (R1, #[.slice a N c, .slice b M d], 67)] [] from HL1.out.box e2 g2 b2); clear g2 b2 e2)
    | (refine wpList_load_at rfl 67 (.tmp 1) rfl (R1) 0 rfl 67 #[.slice a N c, .slice b M d] (0, 0) (HL2.out.get (.tail _ (.head _))) [.slice a N c, .slice b M d] rfl _ Try.underlying67 rfl (by kernel_rfl) ?_))
  refine ((HPR _ (HI.out.kept HL2.out.below) (HJ.out.kept HL2.out.below)).out).mono ?_
  rintro e w3 ⟨rfl, h⟩
  have HL3 := Lib.hid (show Lg w w3 [(R2, #[.slice none 0 0, .slice none 0 0], 67), (R1, #[.slice a N c, .slice b M d], 67)] [] from HL2.out.kept h)
  clear h
  rcases V with _ | _
  · obtain ⟨z1, z2⟩ := HTn.out rfl
    subst z1 z2
    go_wp2_with (first
      | (refine wpList_put_at rfl 67 (.tmp 2) (.tmp 9) rfl rfl (R2) 0 rfl (.agg #[.slice none 0 0, .slice none 0 0]) rfl #[.slice none 0 0, .slice none 0 0] rfl 67 #[.slice none 0 0, .slice none 0 0] #[.slice none 0 0, .slice none 0 0] (HL3.out.get (.head _)) (by kernel_rfl) (by kernel_rfl) (by kernel_rfl) (by kernel_rfl) ?_; intro w4 g4 o4; have HL4 := Lib.hid (show Lg w w4 [(R2, #[.slice none 0 0, .slice none 0 0], 67), (R1, #[.slice a N c, .slice b M d], 67)] [] from HL3.out.put 0 rfl g4 o4 (List.forall_mem_cons.2 ⟨Nat.ne_of_lt qR2_R1, (fun _ h => nomatch h)⟩) (fun _ h => nomatch h) rfl); clear g4 o4))
    exact bodyPost_ret (results_cell_row (p := 2) (ty := 67) (by kernel_rfl) _ _ (R2) 67 _ (0, 0) _ rfl (HL4.out.get (.head _)) Try.underlying67 rfl (by kernel_rfl)) rfl ⟨none, 0, none, 0, rfl, ⟨w4.heap.size, w4.heap.size, w4.heap.size, w4.heap.size, ⟨HL4.out.below.size, Nat.le_refl _, Nat.le_refl _⟩, ⟨HL4.out.below.size, Nat.le_refl _, Nat.le_refl _⟩, .inl (Nat.le_refl _), .inl rfl, .inl rfl⟩, HL4.out.below⟩
  obtain ⟨z1, z2⟩ := HTv.out rfl
  subst z1 z2
  have HG := Lib.hid (HOK.out rfl)
  clear HTv HTn HOK HPR
  go_wp2_with (first
    | (refine wpList_load_at rfl 67 (.tmp 1) rfl (R1) 0 rfl 67 #[.slice a N c, .slice b M d] (0, 0) (HL3.out.get (.tail _ (.head _))) [.slice a N c, .slice b M d] rfl _ Try.underlying67 rfl (by kernel_rfl) ?_))
  refine ((HCp _ (HI.out.kept HL3.out.below) (HJ.out.kept HL3.out.below)).out).mono ?_
  rintro e w4 ⟨a4, c4, v4, rfl, hc1, ho1, h⟩
  obtain ⟨b4, d4, rfl, hd1, hn⟩ := ho1.new
  rw [HM.out] at hd1 ⊢
  obtain ⟨L4, e4⟩ : ∃ x, w3.heap.size = x := ⟨_, rfl⟩
  obtain ⟨H4, f4⟩ : ∃ x, w4.heap.size = x := ⟨_, rfl⟩
  have qL4_R2 : R2 < L4 := Nat.lt_of_lt_of_eq (HL3.out.lt (.head _)) e4
  have qL4_R1 : R1 < L4 := Nat.lt_of_lt_of_eq (HL3.out.lt (.tail _ (.head _))) e4
  have qH4_L4 : L4 ≤ H4 := (by rw [← e4, ← f4]; exact h.size)
  have HL4 := Lib.hid (show Lg w w4 [(R2, #[.slice none 0 0, .slice none 0 0], 67), (R1, #[.slice a N c, .slice b M d], 67)] [(L4, H4, fun W => PkNew L4 H4 W a4 b4 r q)] from HL3.out.made e4 f4 h (by rw [← e4, ← f4]; exact hn.solid))
  clear h hn hc1 hd1 ho1 e4 f4
  go_wp2_with (first
    | (refine wpList_alloc_h rfl 67 rfl (.agg #[.slice none 0 0, .slice none 0 0]) (by kernel_rfl) #[.slice none 0 0, .slice none 0 0] rfl ?_; intro w5 R5 e5 g5 b5; have qR5_R2 : R2 < R5 := Nat.lt_of_lt_of_eq (HL4.out.lt (.head _)) e5; have qR5_R1 : R1 < R5 := Nat.lt_of_lt_of_eq (HL4.out.lt (.tail _ (.head _))) e5; have qR5_H4 : H4 ≤ R5 := Nat.le_trans (HL4.out.hi (.head _)).2 (Nat.le_of_eq e5); have HL5 := Lib.hid (show Lg w w5 [(R5, #[.slice none 0 0, .slice none 0 0], 67), (R2, #[.slice none 0 0, .slice none 0 0], 67), (R1, #[.slice a N c, .slice b M d], 67)] [(L4, H4, fun W => PkNew L4 H4 W a4 b4 r q)] from HL4.out.box e5 g5 b5); clear g5 b5 e5)
    | (refine wpList_put_at rfl 67 (.tmp 3) (.tmp 11) rfl rfl (R5) 0 rfl (.agg #[.slice a4 N c4, .slice b4 M d4]) rfl #[.slice a4 N c4, .slice b4 M d4] rfl 67 #[.slice none 0 0, .slice none 0 0] #[.slice a4 N c4, .slice b4 M d4] (HL5.out.get (.head _)) (by kernel_rfl) (by kernel_rfl) (by kernel_rfl) (by kernel_rfl) ?_; intro w6 g6 o6; have HL6 := Lib.hid (show Lg w w6 [(R5, #[.slice a4 N c4, .slice b4 M d4], 67), (R2, #[.slice none 0 0, .slice none 0 0], 67), (R1, #[.slice a N c, .slice b M d], 67)] [(L4, H4, fun W => PkNew L4 H4 W a4 b4 r q)] from HL5.out.put 0 rfl g6 o6 (List.forall_mem_cons.2 ⟨Nat.ne_of_lt qR5_R2, (List.forall_mem_cons.2 ⟨Nat.ne_of_lt qR5_R1, (fun _ h => nomatch h)⟩)⟩) (List.forall_mem_cons.2 ⟨.inl qR5_H4, (fun _ h => nomatch h)⟩) rfl); clear g6 o6)
    | (refine wpList_load_one rfl 65 (.tmp 12) rfl (R5) 1 rfl 67 #[.slice a4 N c4, .slice b4 M d4] (0, 0) (HL6.out.get (.head _)) (.slice b4 M d4) rfl _ Try.underlying65 rfl (by kernel_rfl) ?_))
  have HB0 := Lib.hid HL6.out.below
  have HA3 := Lib.hid (HL6.out.get (.head _))
  have HA2 := Lib.hid (HL6.out.get (.tail _ (.head _)))
  have lo1 := HL6.out.lo (.head _)
  have hi1 := HL6.out.hi (.head _)
  have g3 : H4 ≤ R5 := qR5_H4
  have g2 : R2 < L4 := qL4_R2
  have gw2 : w.heap.size ≤ R2 := HL6.out.ge (.tail _ (.head _))
  have gw3 : w.heap.size ≤ R5 := HL6.out.ge (.head _)
  obtain ⟨l1, h1, l2, h2, e1, e2, e3, k1, k2⟩ := HL6.out.at (.head _)
  have HK1 := Lib.hid k1
  have HK2 := Lib.hid k2
  clear k1 k2
  clear HL1 HL2 HL3 HL4 HL5 HL6 HI HJ HCp
  go_loopw [4, 5, 15] (fun _ _ i wr => ∃ k : Nat, i = .int .i64 (k : Int) ∧ k ≤ M ∧ Below w.heap.size w wr ∧ wr.heap[R5]? = some (.cells #[.slice a4 N c4, .slice b4 M d4] 67 (0, 0)) ∧ wr.heap[R2]? = some (.cells #[.slice none 0 0, .slice none 0 0] 67 (0, 0)) ∧ NumsNew l1 h1 wr a4 r ∧ RsNew hdL 3 112 l2 h2 wr b4 (tickTo k q) ∧ H4 ≤ wr.heap.size) (fun _ _ i _ => M - (intOf i).toNat)
  case atStart => exact ⟨0, rfl, by omega, HB0.out, HA3.out, HA2.out, HK1.out, HK2.out, hi1.2⟩
  case round =>
    obtain ⟨k, rfl, hk, hb, ha3, ha2, hk1, hk2, hsz⟩ := hrel
    have HB := Lib.hid hb
    have HR3 := Lib.hid ha3
    have HR2 := Lib.hid ha2
    have HN1 := Lib.hid hk1
    have HH := Lib.hid hk2
    have lr3 : R5 < wr.heap.size := (Array.getElem?_eq_some_iff.1 ha3).1
    clear ha3 ha2 hk1 hk2 HB0 HA3 HA2 HK1 HK2
    by_cases hkn : k < M
    · have hkl : k < q.length := by have := HM.out; omega
      have hi1_ : (0 : Int) ≤ (k : Int) := by omega
      have hi2_ : (k : Int) < (M : Int) := by omega
      obtain ⟨B, o, row, hbe, hB1, hB2, hg, hrs, hcs⟩ : ∃ B o row, b4 = some ⟨B, o, none⟩ ∧ l2 ≤ B ∧ B < h2 ∧ wr.heap[B]? = some (.cells row 112 (0, 0)) ∧ o + (tickTo k q).length * 3 ≤ row.size ∧ ∀ (i : Nat) x, (tickTo k q)[i]? = some x → ∀ (j : Nat) v, (hdL x)[j]? = some v → row[o + i * 3 + j]? = some v := by
        rcases HH.out with h | h
        · have := tickTo_length k q
          rw [h] at this
          simp at this
          omega
        · exact h
      rw [tickTo_length] at hrs
      have HGB := Lib.hid hg
      have HRS := Lib.hid (show o + q.length * 3 ≤ row.size from hrs)
      have HCS := Lib.hid hcs
      have lB : B < wr.heap.size := (Array.getElem?_eq_some_iff.1 hg).1
      have HCx := Lib.hid (fun j v hv => (cell_of_row wr B (o + k * 3 + j) row _ (0, 0) hg).trans (hcs k _ (tickTo_at hkl) j v hv))
      have HGk := HG.out k hkl
      have HX := Lib.hid (show hdAt q k = hdAt q k from rfl)
      subst hbe
      clear hg hcs hrs
      generalize hx : hdAt q k = x at *
      have Hx := Lib.hid hx
      obtain ⟨xs, xn, xg⟩ := x
      unfold hdL at HCx
      dsimp only at *
      have hw : IntKind.i64.wrap (xg + 1) = xg + 1 := IntWalk.i64_in _ (by omega)
      clear hx HX
      obtain ⟨tk, htk⟩ : ∃ tk, tickI xg = tk := ⟨_, rfl⟩
      have hmi : (if (1000000 : Int) < xg + 1 then (1000000 : Int) else xg + 1) = tk := by rw [← htk]; unfold tickI; split <;> split <;> omega
      have Hti := Lib.hid htk
      clear htk
      go_wp2_with (first
        | (refine wpList_load_cells rfl 112 (.tmp 18) rfl B (o + k * 3) rfl [.int .i64 xs, .int .i64 xn, .int .i64 xg] HCx.out _ Try.underlying112 rfl (by kernel_rfl) ?_)
        | (refine wpList_alloc_h rfl 112 rfl (.agg #[.int .i64 0, .int .i64 0, .int .i64 0]) (by kernel_rfl) #[.int .i64 0, .int .i64 0, .int .i64 0] rfl ?_; intro v1 qR1 e1 g1 b1; have KL1 := Lib.hid (show Lg wr v1 [(qR1, #[.int .i64 0, .int .i64 0, .int .i64 0], 112)] [] from (Lg.first wr).box e1 g1 b1); clear g1 b1 e1)
        | (refine wpList_put_at rfl 112 (.tmp 5) (.tmp 19) rfl rfl (qR1) 0 rfl (.agg #[.int .i64 xs, .int .i64 xn, .int .i64 xg]) rfl #[.int .i64 xs, .int .i64 xn, .int .i64 xg] rfl 112 #[.int .i64 0, .int .i64 0, .int .i64 0] #[.int .i64 xs, .int .i64 xn, .int .i64 xg] (KL1.out.get (.head _)) (by kernel_rfl) (by kernel_rfl) (by kernel_rfl) (by kernel_rfl) ?_; intro v2 g2 o2; have KL2 := Lib.hid (show Lg wr v2 [(qR1, #[.int .i64 xs, .int .i64 xn, .int .i64 xg], 112)] [] from KL1.out.put 0 rfl g2 o2 (fun _ h => nomatch h) (fun _ h => nomatch h) rfl); clear g2 o2; have hB2v := KL2.out.below; have HRv := Lib.hid ((hB2v.block R5 lr3).trans HR3.out); have HXv := Lib.hid (KL2.out.get (.head _)); have HGv := Lib.hid ((hB2v.block B lB).trans HGB.out))
        | (refine wpList_load_one rfl 65 (.tmp 20) rfl R5 1 rfl 67 #[.slice a4 N c4, .slice (some ⟨B, o, none⟩) M d4] (0, 0) HRv.out (.slice (some ⟨B, o, none⟩) M d4) rfl _ Try.underlying65 rfl (by kernel_rfl) ?_)
        | (refine wpList_load_one rfl 2 (.tmp 23) rfl qR1 2 rfl 112 #[.int .i64 xs, .int .i64 xn, .int .i64 xg] (0, 0) HXv.out (.int .i64 xg) rfl _ Try.underlying2 rfl (by kernel_rfl) ?_)
        | (refine wpList_put_at rfl 2 (.tmp 28) (.tmp 26) rfl rfl B (o + k * 3 + 2) rfl (.int .i64 tk) rfl #[.int .i64 tk] rfl 112 row _ HGv.out (by kernel_rfl) (Nat.ble_eq_true_of_le (by show o + k * 3 + 2 + 1 ≤ row.size; have := HRS.out; omega)) (by rfl) rfl ?_; intro v3 gx ox))
      have hrow := row_set (c := hdL) (s := 3) hdL_len (row := row) (o := o) (k := k) (j := 2) (l := tickTo k q) (x' := tickX (hdAt q k)) (v := .int .i64 (tickI xg)) (by rw [tickTo_length]; exact hkl) (by omega) (by rw [tickTo_length]; exact HRS.out) HCS.out (fun m u hu => by
        rw [Hx.out] at hu
        rcases m with _ | _ | _ | m
        · right; exact ⟨by omega, _, tickTo_at hkl, by rw [Hx.out]; exact hu⟩
        · right; exact ⟨by omega, _, tickTo_at hkl, by rw [Hx.out]; exact hu⟩
        · left; exact ⟨rfl, (Option.some.inj hu).symm⟩
        · simp [hdL, tickX] at hu)
      rw [← tickTo_succ hkl, Hti.out] at hrow
      go_roundw
      case rel => exact ⟨k + 1, by go_num, by omega, ox.below (HB.out.trans (hB2v.mono HB.out.size)) (by omega) (Nat.le_trans HB.out.size hB2v.size), (ox.block _ (Nat.lt_of_lt_of_le lr3 hB2v.size) (by omega)).trans HRv.out, (ox.block _ (Nat.lt_of_lt_of_le (Array.getElem?_eq_some_iff.1 HR2.out).1 hB2v.size) (by omega)).trans ((hB2v.block R2 (Array.getElem?_eq_some_iff.1 HR2.out).1).trans HR2.out), (HN1.out.kept hB2v).out ox (by omega), .inr ⟨B, o, _, rfl, hB1, hB2, gx, by rw [setAll_size, tickTo_length]; exact HRS.out, hrow⟩, Nat.le_trans hsz (Nat.le_trans hB2v.size ox.size)⟩
      case measure => simp [intOf]; omega
    · obtain rfl : k = M := by omega
      have HHe := Lib.hid (show RsNew hdL 3 112 l2 h2 wr b4 (tickH q) from by
        have := HH.out
        rwa [show k = q.length from HM.out.symm, tickTo_all] at this)
      go_wp2_with (first
        | (refine wpList_load_at rfl 67 (.tmp 3) rfl (R5) 0 rfl 67 #[.slice a4 N c4, .slice b4 k d4] (0, 0) HR3.out [.slice a4 N c4, .slice b4 k d4] rfl _ Try.underlying67 rfl (by kernel_rfl) ?_)
        | (refine wpList_put_at rfl 67 (.tmp 2) (.tmp 30) rfl rfl R2 0 rfl (.agg #[.slice a4 N c4, .slice b4 k d4]) rfl #[.slice a4 N c4, .slice b4 k d4] rfl 67 #[.slice none 0 0, .slice none 0 0] #[.slice a4 N c4, .slice b4 k d4] HR2.out (by kernel_rfl) (by kernel_rfl) (by kernel_rfl) (by kernel_rfl) ?_; intro v3 gx ox))
      exact bodyPost_ret (results_cell_row (p := 2) (ty := 67) (by kernel_rfl) _ _ (R2) 67 _ (0, 0) _ rfl gx Try.underlying67 rfl (by kernel_rfl)) rfl ⟨a4, c4, b4, d4, by rw [HN.out, tickH_length, HM.out], ⟨l1, h1, l2, h2, ⟨by omega, e1.2.1, Nat.le_trans e1.2.2 (Nat.le_trans hsz ox.size)⟩, ⟨by omega, e2.2.1, Nat.le_trans e2.2.2 (Nat.le_trans hsz ox.size)⟩, e3, HN1.out.out ox (.inr (by omega)), HHe.out.out ox (.inr (by omega))⟩, ox.below HB.out gw2 HB.out.size⟩
set_option maxRecDepth 100000 in
set_option maxHeartbeats 8000000 in
theorem specPickTick_any (a b : Option Addr) (c d : Nat) (r : List Int) (q : List Hd) (w : World) (h1 : NumsIn w a r) (h2 : RsIn hdL 3 w b q) (hr : r.length ≤ 1048576) (hq : q.length ≤ 1048576) :
    Calls Try.prog 50 #[.agg #[.slice a r.length c, .slice b q.length d]] w fun e w' => ∃ a' c' b' d', e = .returned (.agg #[.slice a' (tickR r q).length c', .slice b' (tickV r q).length d']) ∧ PkNew w.heap.size w'.heap.size w' a' b' (tickR r q) (tickV r q) ∧ Below w.heap.size w w' := by
  have HPR := fun W h1 h2 => Lib.hid (specPickerRight_any a b c d r q W h1 h2 (by unfold maxLen; omega) (by unfold maxLen; omega))
  have HCp := fun W h1 h2 => Lib.hid (l09Copy_any a b c d r q W h1 h2 hr hq)
  obtain ⟨V, hV⟩ : ∃ V, pkB r q = V := ⟨_, rfl⟩
  have HOK := Lib.hid (show V = true → ∀ i, i < q.length → 0 ≤ (hdAt q i).g ∧ (hdAt q i).g ≤ 1000000 from fun h i hi => (heardAt_of ((pkB_of (hV.trans h)).2.2 i hi)).2.2.1)
  have HTv := Lib.hid (show V = true → tickH q = tickV r q ∧ r = tickR r q from fun h => by unfold tickV tickR; rw [hV, if_pos h, if_pos h]; exact ⟨rfl, rfl⟩)
  have HTn := Lib.hid (show V = false → [] = tickV r q ∧ [] = tickR r q from fun h => by unfold tickV tickR; rw [hV, h]; exact ⟨rfl, rfl⟩)
  rw [hV] at HPR
  have HI := Lib.hid h1
  have HJ := Lib.hid h2
  clear hV h1 h2
  generalize tickV r q = TV at *
  generalize tickR r q = TR at *
  obtain ⟨N, hN⟩ : ∃ N, r.length = N := ⟨_, rfl⟩
  obtain ⟨M, hM⟩ : ∃ M, q.length = M := ⟨_, rfl⟩
  have HN := Lib.hid hN
  have HM := Lib.hid hM
  rw [hN] at hr HPR HCp ⊢
  rw [hM] at hq HPR HCp ⊢
  clear hN hM
  go_enter Try.func50, Try.ntmps50
  go_wp2_with (first
    | (refine wpList_box_h rfl 67 (.tmp 0) rfl #[.slice a N c, .slice b M d] rfl ?_; intro w1 R1 e1 g1 b1; have HL1 := Lib.hid (show Lg w w1 [(R1, #[.slice a N c, .slice b M d], 67)] [] from (Lg.first w).box e1 g1 b1); clear g1 b1 e1)
    | (refine wpList_alloc_h rfl 67 rfl (.agg #[.slice none 0 0, .slice none 0 0]) (by kernel_rfl) #[.slice none 0 0, .slice none 0 0] rfl ?_; intro w2 R2 e2 g2 b2; have qR2_R1 : R1 < R2 := Nat.lt_of_lt_of_eq (HL1.out.lt (.head _)) e2; have HL2 := Lib.hid (show Lg w w2 [(R2, #[.slice none 0 0, .slice none 0 0], 67), (R1, #[.slice a N c, .slice b M d], 67)] [] from HL1.out.box e2 g2 b2); clear g2 b2 e2)
    | (refine wpList_load_at rfl 67 (.tmp 1) rfl (R1) 0 rfl 67 #[.slice a N c, .slice b M d] (0, 0) (HL2.out.get (.tail _ (.head _))) [.slice a N c, .slice b M d] rfl _ Try.underlying67 rfl (by kernel_rfl) ?_))
  refine ((HPR _ (HI.out.kept HL2.out.below) (HJ.out.kept HL2.out.below)).out).mono ?_
  rintro e w3 ⟨rfl, h⟩
  have HL3 := Lib.hid (show Lg w w3 [(R2, #[.slice none 0 0, .slice none 0 0], 67), (R1, #[.slice a N c, .slice b M d], 67)] [] from HL2.out.kept h)
  clear h
  rcases V with _ | _
  · obtain ⟨z1, z2⟩ := HTn.out rfl
    subst z1 z2
    go_wp2_with (first
      | (refine wpList_put_at rfl 67 (.tmp 2) (.tmp 8) rfl rfl (R2) 0 rfl (.agg #[.slice none 0 0, .slice none 0 0]) rfl #[.slice none 0 0, .slice none 0 0] rfl 67 #[.slice none 0 0, .slice none 0 0] #[.slice none 0 0, .slice none 0 0] (HL3.out.get (.head _)) (by kernel_rfl) (by kernel_rfl) (by kernel_rfl) (by kernel_rfl) ?_; intro w4 g4 o4; have HL4 := Lib.hid (show Lg w w4 [(R2, #[.slice none 0 0, .slice none 0 0], 67), (R1, #[.slice a N c, .slice b M d], 67)] [] from HL3.out.put 0 rfl g4 o4 (List.forall_mem_cons.2 ⟨Nat.ne_of_lt qR2_R1, (fun _ h => nomatch h)⟩) (fun _ h => nomatch h) rfl); clear g4 o4))
    exact bodyPost_ret (results_cell_row (p := 2) (ty := 67) (by kernel_rfl) _ _ (R2) 67 _ (0, 0) _ rfl (HL4.out.get (.head _)) Try.underlying67 rfl (by kernel_rfl)) rfl ⟨none, 0, none, 0, rfl, ⟨w4.heap.size, w4.heap.size, w4.heap.size, w4.heap.size, ⟨HL4.out.below.size, Nat.le_refl _, Nat.le_refl _⟩, ⟨HL4.out.below.size, Nat.le_refl _, Nat.le_refl _⟩, .inl (Nat.le_refl _), .inl rfl, .inl rfl⟩, HL4.out.below⟩
  obtain ⟨z1, z2⟩ := HTv.out rfl
  subst z1 z2
  have HG := Lib.hid (HOK.out rfl)
  clear HTv HTn HOK HPR
  go_wp2_with (first
    | (refine wpList_load_at rfl 67 (.tmp 1) rfl (R1) 0 rfl 67 #[.slice a N c, .slice b M d] (0, 0) (HL3.out.get (.tail _ (.head _))) [.slice a N c, .slice b M d] rfl _ Try.underlying67 rfl (by kernel_rfl) ?_))
  refine ((HCp _ (HI.out.kept HL3.out.below) (HJ.out.kept HL3.out.below)).out).mono ?_
  rintro e w4 ⟨a4, c4, b4, d4, rfl, hc1, hd1, hn, h⟩
  obtain ⟨L4, e4⟩ : ∃ x, w3.heap.size = x := ⟨_, rfl⟩
  obtain ⟨H4, f4⟩ : ∃ x, w4.heap.size = x := ⟨_, rfl⟩
  have qL4_R2 : R2 < L4 := Nat.lt_of_lt_of_eq (HL3.out.lt (.head _)) e4
  have qL4_R1 : R1 < L4 := Nat.lt_of_lt_of_eq (HL3.out.lt (.tail _ (.head _))) e4
  have qH4_L4 : L4 ≤ H4 := (by rw [← e4, ← f4]; exact h.size)
  have HL4 := Lib.hid (show Lg w w4 [(R2, #[.slice none 0 0, .slice none 0 0], 67), (R1, #[.slice a N c, .slice b M d], 67)] [(L4, H4, fun W => PkNew L4 H4 W a4 b4 r q)] from HL3.out.made e4 f4 h (by rw [← e4, ← f4]; exact hn.solid))
  clear h hn hc1 hd1 e4 f4
  go_wp2_with (first
    | (refine wpList_alloc_h rfl 67 rfl (.agg #[.slice none 0 0, .slice none 0 0]) (by kernel_rfl) #[.slice none 0 0, .slice none 0 0] rfl ?_; intro w5 R5 e5 g5 b5; have qR5_R2 : R2 < R5 := Nat.lt_of_lt_of_eq (HL4.out.lt (.head _)) e5; have qR5_R1 : R1 < R5 := Nat.lt_of_lt_of_eq (HL4.out.lt (.tail _ (.head _))) e5; have qR5_H4 : H4 ≤ R5 := Nat.le_trans (HL4.out.hi (.head _)).2 (Nat.le_of_eq e5); have HL5 := Lib.hid (show Lg w w5 [(R5, #[.slice none 0 0, .slice none 0 0], 67), (R2, #[.slice none 0 0, .slice none 0 0], 67), (R1, #[.slice a N c, .slice b M d], 67)] [(L4, H4, fun W => PkNew L4 H4 W a4 b4 r q)] from HL4.out.box e5 g5 b5); clear g5 b5 e5)
    | (refine wpList_put_at rfl 67 (.tmp 3) (.tmp 10) rfl rfl (R5) 0 rfl (.agg #[.slice a4 N c4, .slice b4 M d4]) rfl #[.slice a4 N c4, .slice b4 M d4] rfl 67 #[.slice none 0 0, .slice none 0 0] #[.slice a4 N c4, .slice b4 M d4] (HL5.out.get (.head _)) (by kernel_rfl) (by kernel_rfl) (by kernel_rfl) (by kernel_rfl) ?_; intro w6 g6 o6; have HL6 := Lib.hid (show Lg w w6 [(R5, #[.slice a4 N c4, .slice b4 M d4], 67), (R2, #[.slice none 0 0, .slice none 0 0], 67), (R1, #[.slice a N c, .slice b M d], 67)] [(L4, H4, fun W => PkNew L4 H4 W a4 b4 r q)] from HL5.out.put 0 rfl g6 o6 (List.forall_mem_cons.2 ⟨Nat.ne_of_lt qR5_R2, (List.forall_mem_cons.2 ⟨Nat.ne_of_lt qR5_R1, (fun _ h => nomatch h)⟩)⟩) (List.forall_mem_cons.2 ⟨.inl qR5_H4, (fun _ h => nomatch h)⟩) rfl); clear g6 o6))
  have HB0 := Lib.hid HL6.out.below
  have HA3 := Lib.hid (HL6.out.get (.head _))
  have HA2 := Lib.hid (HL6.out.get (.tail _ (.head _)))
  have lo1 := HL6.out.lo (.head _)
  have hi1 := HL6.out.hi (.head _)
  have g3 : H4 ≤ R5 := qR5_H4
  have g2 : R2 < L4 := qL4_R2
  have gw2 : w.heap.size ≤ R2 := HL6.out.ge (.tail _ (.head _))
  have gw3 : w.heap.size ≤ R5 := HL6.out.ge (.head _)
  obtain ⟨l1, h1, l2, h2, e1, e2, e3, k1, k2⟩ := HL6.out.at (.head _)
  have HK1 := Lib.hid k1
  have HK2 := Lib.hid k2
  clear k1 k2
  clear HL1 HL2 HL3 HL4 HL5 HL6 HI HJ HCp
  go_wp2_with fail
  go_loopw [4] (fun i wr => ∃ k : Nat, i = .int .i64 (k : Int) ∧ k ≤ M ∧ Below w.heap.size w wr ∧ wr.heap[R5]? = some (.cells #[.slice a4 N c4, .slice b4 M d4] 67 (0, 0)) ∧ wr.heap[R2]? = some (.cells #[.slice none 0 0, .slice none 0 0] 67 (0, 0)) ∧ NumsNew l1 h1 wr a4 r ∧ RsNew hdL 3 112 l2 h2 wr b4 (tickTo k q) ∧ H4 ≤ wr.heap.size) (fun i _ => M - (intOf i).toNat)
  case atStart => exact ⟨0, rfl, by omega, HB0.out, HA3.out, HA2.out, HK1.out, HK2.out, hi1.2⟩
  case round =>
    obtain ⟨k, rfl, hk, hb, ha3, ha2, hk1, hk2, hsz⟩ := hrel
    have HB := Lib.hid hb
    have HR3 := Lib.hid ha3
    have HR2 := Lib.hid ha2
    have HN1 := Lib.hid hk1
    have HH := Lib.hid hk2
    have lr3 : R5 < wr.heap.size := (Array.getElem?_eq_some_iff.1 ha3).1
    clear ha3 ha2 hk1 hk2 HB0 HA3 HA2 HK1 HK2
    by_cases hkn : k < M
    · have hkl : k < q.length := by have := HM.out; omega
      have hi1_ : (0 : Int) ≤ (k : Int) := by omega
      have hi2_ : (k : Int) < (M : Int) := by omega
      obtain ⟨B, o, row, hbe, hB1, hB2, hg, hrs, hcs⟩ : ∃ B o row, b4 = some ⟨B, o, none⟩ ∧ l2 ≤ B ∧ B < h2 ∧ wr.heap[B]? = some (.cells row 112 (0, 0)) ∧ o + (tickTo k q).length * 3 ≤ row.size ∧ ∀ (i : Nat) x, (tickTo k q)[i]? = some x → ∀ (j : Nat) v, (hdL x)[j]? = some v → row[o + i * 3 + j]? = some v := by
        rcases HH.out with h | h
        · have := tickTo_length k q
          rw [h] at this
          simp at this
          omega
        · exact h
      rw [tickTo_length] at hrs
      have HGB := Lib.hid hg
      have HRS := Lib.hid (show o + q.length * 3 ≤ row.size from hrs)
      have HCS := Lib.hid hcs
      have lB : B < wr.heap.size := (Array.getElem?_eq_some_iff.1 hg).1
      have HCx := Lib.hid (fun j v hv => (cell_of_row wr B (o + k * 3 + j) row _ (0, 0) hg).trans (hcs k _ (tickTo_at hkl) j v hv))
      have HGk := HG.out k hkl
      have HX := Lib.hid (show hdAt q k = hdAt q k from rfl)
      subst hbe
      clear hg hcs hrs
      generalize hx : hdAt q k = x at *
      have Hx := Lib.hid hx
      obtain ⟨xs, xn, xg⟩ := x
      unfold hdL at HCx
      dsimp only at *
      have hw : IntKind.i64.wrap (xg + 1) = xg + 1 := IntWalk.i64_in _ (by omega)
      clear hx HX
      have hmin := fun W => Lib.hid ((l01Min_pk 1000000 (xg + 1) W).mono (fun e w2 (h : _ ∧ W = w2) => And.intro h.1 h.2.symm))
      have hti : (if (1000000 : Int) < xg + 1 then 1000000 else xg + 1) = tickI xg := by unfold tickI; split <;> split <;> omega
      rw [hti] at hmin
      clear hti
      have q1 : wr.drew.cell? ⟨R5, 1, none⟩ = some (.slice (some ⟨B, o, none⟩) M d4) := (cell_of_row wr.drew R5 1 _ _ (0, 0) HR3.out).trans rfl
      have q2 : wr.drew.cell? ⟨B, o + k * 3 + 2, none⟩ = some (.int .i64 xg) := by have := HCx.out 2 _ rfl; simpa using this
      go_wp2_with (first
        | (refine wpList_load_one rfl 65 (.tmp 12) rfl R5 1 rfl 67 #[.slice a4 N c4, .slice (some ⟨B, o, none⟩) M d4] (0, 0) HR3.out (.slice (some ⟨B, o, none⟩) M d4) rfl _ Try.underlying65 rfl (by kernel_rfl) ?_))
      refine wp_region_still_tail 13 (by kernel_rfl) (by kernel_rfl) ?_
      simp only [List.take_succ_cons, List.take_zero, List.drop_succ_cons, List.drop_zero]
      change wpStill _ _ wr.drew _ _ _
      still_step
      still_step
      still_step
      still_step
      still_step
      still_step
      still_step
      still_step
      still_step
      still_step
      still_call (hmin wr.drew).out
      still_step
      still_step
      refine wpStill_nil ?_
      change wpList _ _ _ _ _ wr.drew
      have gB := Lib.hid (show wr.drew.heap[B]? = some (.cells row 112 (0, 0)) from HGB.out)
      obtain ⟨tk, htk⟩ : ∃ tk, tickI xg = tk := ⟨_, rfl⟩
      have Hti := Lib.hid htk
      rw [htk]
      clear htk
      go_wp2_with (first
        | (refine wpList_put_at rfl 2 (.tmp 30) (.tmp 28) rfl rfl B (o + k * 3 + 2) rfl (.int .i64 tk) rfl #[.int .i64 tk] rfl 112 row _ gB.out (by kernel_rfl) (Nat.ble_eq_true_of_le (by show o + k * 3 + 2 + 1 ≤ row.size; have := HRS.out; omega)) (by rfl) rfl ?_; intro v3 gx ox))
      have hrow := row_set (c := hdL) (s := 3) hdL_len (row := row) (o := o) (k := k) (j := 2) (l := tickTo k q) (x' := tickX (hdAt q k)) (v := .int .i64 (tickI xg)) (by rw [tickTo_length]; exact hkl) (by omega) (by rw [tickTo_length]; exact HRS.out) HCS.out (fun m u hu => by
        rw [Hx.out] at hu
        rcases m with _ | _ | _ | m
        · right; exact ⟨by omega, _, tickTo_at hkl, by rw [Hx.out]; exact hu⟩
        · right; exact ⟨by omega, _, tickTo_at hkl, by rw [Hx.out]; exact hu⟩
        · left; exact ⟨rfl, (Option.some.inj hu).symm⟩
        · simp [hdL, tickX] at hu)
      rw [← tickTo_succ hkl, Hti.out] at hrow
      go_roundw
      case rel => exact ⟨k + 1, by go_num, by omega, ox.below (HB.out.drew) (by omega) (Nat.le_trans HB.out.size (Nat.le_refl _)), (ox.block _ lr3 (by omega)).trans HR3.out, (ox.block _ (Array.getElem?_eq_some_iff.1 HR2.out).1 (by omega)).trans HR2.out, (HN1.out.kept (Below.refl _ _).drew).out ox (by omega), .inr ⟨B, o, _, rfl, hB1, hB2, gx, by rw [setAll_size, tickTo_length]; exact HRS.out, hrow⟩, Nat.le_trans hsz (Nat.le_trans (Nat.le_refl _) ox.size)⟩
      case measure => simp [intOf]; omega
    · obtain rfl : k = M := by omega
      have HHe := Lib.hid (show RsNew hdL 3 112 l2 h2 wr b4 (tickH q) from by
        have := HH.out
        rwa [show k = q.length from HM.out.symm, tickTo_all] at this)
      go_wp2_with (first
        | (refine wpList_load_one rfl 65 (.tmp 12) rfl R5 1 rfl 67 #[.slice a4 N c4, .slice b4 k d4] (0, 0) HR3.out (.slice b4 k d4) rfl _ Try.underlying65 rfl (by kernel_rfl) ?_)
        | (refine wpList_load_at rfl 67 (.tmp 3) rfl (R5) 0 rfl 67 #[.slice a4 N c4, .slice b4 k d4] (0, 0) HR3.out [.slice a4 N c4, .slice b4 k d4] rfl _ Try.underlying67 rfl (by kernel_rfl) ?_)
        | (refine wpList_put_at rfl 67 (.tmp 2) (.tmp 31) rfl rfl R2 0 rfl (.agg #[.slice a4 N c4, .slice b4 k d4]) rfl #[.slice a4 N c4, .slice b4 k d4] rfl 67 #[.slice none 0 0, .slice none 0 0] #[.slice a4 N c4, .slice b4 k d4] HR2.out (by kernel_rfl) (by kernel_rfl) (by kernel_rfl) (by kernel_rfl) ?_; intro v3 gx ox))
      exact bodyPost_ret (results_cell_row (p := 2) (ty := 67) (by kernel_rfl) _ _ (R2) 67 _ (0, 0) _ rfl gx Try.underlying67 rfl (by kernel_rfl)) rfl ⟨a4, c4, b4, d4, by rw [HN.out, tickH_length, HM.out], ⟨l1, h1, l2, h2, ⟨by omega, e1.2.1, Nat.le_trans e1.2.2 (Nat.le_trans hsz ox.size)⟩, ⟨by omega, e2.2.1, Nat.le_trans e2.2.2 (Nat.le_trans hsz ox.size)⟩, e3, HN1.out.out ox (.inr (by omega)), HHe.out.out ox (.inr (by omega))⟩, ox.below HB.out gw2 HB.out.size⟩
end Go.Proofs.Ytdhmcepnmbchkaa
