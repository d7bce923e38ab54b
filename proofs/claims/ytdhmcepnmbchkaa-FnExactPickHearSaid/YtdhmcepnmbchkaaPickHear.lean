/- What is heard of one more: the model's PickHear. Nothing that was there is written. -/
import Derived.Test.YtdhmcepnmbchkaaPickFresh
import Derived.Test.YtdhmcepnmbchkaaPickTick
namespace Go.Proofs.Ytdhmcepnmbchkaa
open Go.RowKit
set_option linter.unusedVariables false

theorem RsIn.drop {α : Type} {c : α → List Value} {s : Nat} {w : World} {b o : Nat} {l : List α} (h : RsIn c s w (some ⟨b, o, none⟩) l) (k : Nat) : RsIn c s w (some ⟨b, o + k * s, none⟩) (l.drop k) := by
  rcases h with rfl | ⟨b', o', he, hlt, hc⟩
  · exact .inl (by simp)
  · simp only [Option.some.injEq, Addr.mk.injEq, and_true] at he
    obtain ⟨rfl, rfl⟩ := he
    refine .inr ⟨b, _, rfl, hlt, fun i x hx j v hv => ?_⟩
    rw [List.getElem?_drop] at hx
    have := hc (k + i) x hx j v hv
    rw [Nat.add_mul, ← Nat.add_assoc] at this
    exact this
theorem slice_len {v : Value} {ad : Option Addr} {n m cap : Nat} (h : v = .slice ad n cap) (e : m = n) : v = .slice ad m cap := by
  rw [e]
  exact h
theorem putH_form {q : List Hd} {s n : Int} {k e : Nat} (hk : k = cntI (hdS q) s) (he : e = if (hdS q)[k]? = some s then k + 1 else k) : putH q s n = q.take k ++ ⟨s, n, 0⟩ :: q.drop e := by
  unfold putH
  rw [← hk, ← he]
theorem RsNew.span {α : Type} {c : α → List Value} {s : Nat} {e : TypeId} {lo hi lo' hi' : Nat} {w : World} {a : Option Addr} {l : List α} (h : RsNew c s e lo hi w a l) (h1 : lo' ≤ lo) (h2 : hi ≤ hi') : RsNew c s e lo' hi' w a l := h.wide h1 h2
/-- A Picker is answered, in memory of the call's own. -/
def PkOut (r : List Int) (q : List Hd) (w : World) (e : Ending) (w' : World) : Prop := ∃ a' c' b' d', e = .returned (.agg #[.slice a' r.length c', .slice b' q.length d']) ∧ PkNew w.heap.size w'.heap.size w' a' b' r q ∧ Below w.heap.size w w'
theorem PkOut.mk {r : List Int} {q : List Hd} {w w' : World} {N M : Nat} {a b : Option Addr} {c d : Nat} (hN : r.length = N) (hM : q.length = M) (h : PkNew w.heap.size w'.heap.size w' a b r q) (hb : Below w.heap.size w w') : PkOut r q w (.returned (.agg #[.slice a N c, .slice b M d])) w' := by
  subst hN hM
  exact ⟨_, _, _, _, rfl, h, hb⟩
set_option maxRecDepth 100000 in
set_option maxHeartbeats 8000000 in
theorem specPickHear_nil (a b : Option Addr) (c d : Nat) (r : List Int) (q : List Hd) (src n : Int) (w : World) (h1 : NumsIn w a r) (h2 : RsIn hdL 3 w b q) (hr : r.length ≤ 1048576) (hq : q.length ≤ 1048576) (hdc : q.length ≤ d) (he : q = []) :
    Calls Try.prog 46 #[.agg #[.slice a r.length c, .slice b q.length d], .int .i64 src, .int .i64 n] w (PkOut r (hearH r q src n) w) := by
  have HPR := fun W h1 h2 => Lib.hid (specPickerRight_any a b c d r q W h1 h2 (by unfold maxLen; omega) (by unfold maxLen; omega))
  have HRk := fun W h1 => Lib.hid (l09Rank_any a b c d q.length r src W h1 (by unfold maxLen; omega))
  have HCp := fun W h1 h2 => Lib.hid (l09Copy_any a b c d r q W h1 h2 hr hq)
  have hrk := rankI_lt r src
  obtain ⟨V, hV⟩ : ∃ V, pkB r q = V := ⟨_, rfl⟩
  obtain ⟨mem, hmem⟩ : ∃ m, decide (src ∈ r) = m := ⟨_, rfl⟩
  rw [hmem] at hrk
  have HMb := Lib.hid (show mayB r q src n = (V && (mem && inB (-2147483648) 2147483647 n)) by unfold mayB; rw [hV, hmem])
  have HGd := Lib.hid (show V = true → ∀ i, i < q.length → heardAt r q i = true from fun h => (pkB_of (hV.trans h)).2.2)
  have HNo := Lib.hid (show mayB r q src n = false → q = hearH r q src n from fun h => by unfold hearH; rw [h]; rfl)
  have HYes := Lib.hid (show mayB r q src n = true → putH q src n = hearH r q src n from fun h => by unfold hearH; rw [if_pos h])
  rw [hV] at HPR
  generalize mayB r q src n = MB at *
  generalize hearH r q src n = TV at *
  generalize rankI r src = rk at *
  clear hmem hV
  have HI := Lib.hid h1
  have HJ := Lib.hid h2
  clear h1 h2
  obtain ⟨N, hN⟩ : ∃ N, r.length = N := ⟨_, rfl⟩
  obtain ⟨M, hM⟩ : ∃ M, q.length = M := ⟨_, rfl⟩
  have HN := Lib.hid hN
  have HM := Lib.hid hM
  rw [hN] at hr HPR HRk HCp
  rw [hM] at hq HPR HRk HCp hdc
  rw [show (.slice a r.length c : Value) = .slice a N c by rw [hN], show (.slice b q.length d : Value) = .slice b M d by rw [hM]]
  have HE0 := Lib.hid he
  clear he
  clear hN hM
  go_enter Try.func46, Try.ntmps46
  go_wp2_with (first
    | ((with_reducible refine @id (wpList _ _ _ (Oper.mk _ (Op.box 67 (.tmp 0)) _ _ _ _ :: _) _ _) ?_); refine wpList_box_h rfl 67 (.tmp 0) rfl #[.slice a N c, .slice b M d] rfl ?_; intro w1 R1 e1 g1 b1; have HL1 := Lib.hid (show Lg w w1 [(R1, #[.slice a N c, .slice b M d], 67)] [] from (Lg.first w).box e1 g1 b1); clear g1 b1 e1)
    | ((with_reducible refine @id (wpList _ _ _ (Oper.mk _ (Op.alloc 67) _ _ _ _ :: _) _ _) ?_); refine wpList_alloc_h rfl 67 rfl (.agg #[.slice none 0 0, .slice none 0 0]) (by kernel_rfl) #[.slice none 0 0, .slice none 0 0] rfl ?_; intro w2 R2 e2 g2 b2; have qR2_R1 : R1 < R2 := Nat.lt_of_lt_of_eq (HL1.out.lt (.head _)) e2; have HL2 := Lib.hid (show Lg w w2 [(R2, #[.slice none 0 0, .slice none 0 0], 67), (R1, #[.slice a N c, .slice b M d], 67)] [] from HL1.out.box e2 g2 b2); clear g2 b2 e2)
    | ((with_reducible refine @id (wpList _ _ _ (Oper.mk _ (Op.load 67 (.tmp 3)) _ _ _ _ :: _) _ _) ?_); refine wpList_load_at rfl 67 (.tmp 3) rfl (R1) 0 rfl 67 #[.slice a N c, .slice b M d] (0, 0) (HL2.out.get (.tail _ (.head _))) [.slice a N c, .slice b M d] rfl _ Try.underlying67 rfl (by kernel_rfl) ?_))
  refine ((HPR _ (HI.out.kept HL2.out.below) (HJ.out.kept HL2.out.below)).out).mono ?_
  rintro e w3 ⟨rfl, h⟩
  have HL3 := Lib.hid (show Lg w w3 [(R2, #[.slice none 0 0, .slice none 0 0], 67), (R1, #[.slice a N c, .slice b M d], 67)] [] from HL2.out.kept h)
  clear h
  have c3 : True := True.intro
  rcases V with _ | _
  · skip
    have ht := HNo.out (by rw [HMb.out]; first | rfl | simp [c3])
    subst ht
    go_wp2_with (first
      | ((with_reducible refine @id (wpList _ _ _ (Oper.mk _ (Op.load 67 (.tmp 3)) _ _ _ _ :: _) _ _) ?_); refine wpList_load_at rfl 67 (.tmp 3) rfl (R1) 0 rfl 67 #[.slice a N c, .slice b M d] (0, 0) (HL3.out.get (.tail _ (.head _))) [.slice a N c, .slice b M d] rfl _ Try.underlying67 rfl (by kernel_rfl) ?_))
    refine ((HCp _ (HI.out.kept HL3.out.below) (HJ.out.kept HL3.out.below)).out).mono ?_
    rintro e w4 ⟨a4, c4, b4, d4, rfl, hc1, hd1, hn, h⟩
    obtain ⟨L4, e4⟩ : ∃ x, w3.heap.size = x := ⟨_, rfl⟩
    obtain ⟨H4, f4⟩ : ∃ x, w4.heap.size = x := ⟨_, rfl⟩
    have qL4_R2 : R2 < L4 := Nat.lt_of_lt_of_eq (HL3.out.lt (.head _)) e4
    have qL4_R1 : R1 < L4 := Nat.lt_of_lt_of_eq (HL3.out.lt (.tail _ (.head _))) e4
    have qH4_L4 : L4 ≤ H4 := (by rw [← e4, ← f4]; exact h.size)
    have HL4 := Lib.hid (show Lg w w4 [(R2, #[.slice none 0 0, .slice none 0 0], 67), (R1, #[.slice a N c, .slice b M d], 67)] [(L4, H4, fun W => PkNew L4 H4 W a4 b4 r q)] from HL3.out.made e4 f4 h (by rw [← e4, ← f4]; exact hn.solid))
    clear h hn hc1 hd1 e4 f4
    go_wp2_with (first
      | ((with_reducible refine @id (wpList _ _ _ (Oper.mk _ (Op.store 67 (.tmp 6) (.tmp 25)) _ _ _ _ :: _) _ _) ?_); refine wpList_put_at rfl 67 (.tmp 6) (.tmp 25) rfl rfl (R2) 0 rfl (.agg #[.slice a4 N c4, .slice b4 M d4]) rfl #[.slice a4 N c4, .slice b4 M d4] rfl 67 #[.slice none 0 0, .slice none 0 0] #[.slice a4 N c4, .slice b4 M d4] (HL4.out.get (.head _)) (by kernel_rfl) (by kernel_rfl) (by kernel_rfl) (by kernel_rfl) ?_; intro w5 g5 o5; have HL5 := Lib.hid (show Lg w w5 [(R2, #[.slice a4 N c4, .slice b4 M d4], 67), (R1, #[.slice a N c, .slice b M d], 67)] [(L4, H4, fun W => PkNew L4 H4 W a4 b4 r q)] from HL4.out.put 0 rfl g5 o5 (List.forall_mem_cons.2 ⟨Nat.ne_of_lt qR2_R1, (fun _ h => nomatch h)⟩) (List.forall_mem_cons.2 ⟨.inr qL4_R2, (fun _ h => nomatch h)⟩) rfl); clear g5 o5))
    exact bodyPost_ret (results_cell_row (p := 6) (ty := 67) (by kernel_rfl) _ _ (R2) 67 _ (0, 0) _ rfl (HL5.out.get (.head _)) Try.underlying67 rfl (by kernel_rfl)) rfl (PkOut.mk HN.out HM.out ((HL5.out.at (.head _)).wide (HL5.out.lo (.head _)) (HL5.out.hi (.head _)).2) HL5.out.below)
  go_wp2_with (first
    | ((with_reducible refine @id (wpList _ _ _ (Oper.mk _ (Op.load 67 (.tmp 3)) _ _ _ _ :: _) _ _) ?_); refine wpList_load_at rfl 67 (.tmp 3) rfl (R1) 0 rfl 67 #[.slice a N c, .slice b M d] (0, 0) (HL3.out.get (.tail _ (.head _))) [.slice a N c, .slice b M d] rfl _ Try.underlying67 rfl (by kernel_rfl) ?_))
  refine ((HRk _ (HI.out.kept HL3.out.below)).out).mono ?_
  rintro e w4 ⟨rfl, h⟩
  have HL4 := Lib.hid (show Lg w w4 [(R2, #[.slice none 0 0, .slice none 0 0], 67), (R1, #[.slice a N c, .slice b M d], 67)] [] from HL3.out.kept h)
  clear h
  rcases mem with _ | _
  · simp only [Bool.not_false] at hrk
    have ht := HNo.out (by rw [HMb.out]; first | rfl | simp [c3])
    subst ht
    go_wp2_with (first
      | ((with_reducible refine @id (wpList _ _ _ (Oper.mk _ (Op.load 67 (.tmp 3)) _ _ _ _ :: _) _ _) ?_); refine wpList_load_at rfl 67 (.tmp 3) rfl (R1) 0 rfl 67 #[.slice a N c, .slice b M d] (0, 0) (HL4.out.get (.tail _ (.head _))) [.slice a N c, .slice b M d] rfl _ Try.underlying67 rfl (by kernel_rfl) ?_))
    refine ((HCp _ (HI.out.kept HL4.out.below) (HJ.out.kept HL4.out.below)).out).mono ?_
    rintro e w5 ⟨a5, c5, b5, d5, rfl, hc1, hd1, hn, h⟩
    obtain ⟨L5, e5⟩ : ∃ x, w4.heap.size = x := ⟨_, rfl⟩
    obtain ⟨H5, f5⟩ : ∃ x, w5.heap.size = x := ⟨_, rfl⟩
    have qL5_R2 : R2 < L5 := Nat.lt_of_lt_of_eq (HL4.out.lt (.head _)) e5
    have qL5_R1 : R1 < L5 := Nat.lt_of_lt_of_eq (HL4.out.lt (.tail _ (.head _))) e5
    have qH5_L5 : L5 ≤ H5 := (by rw [← e5, ← f5]; exact h.size)
    have HL5 := Lib.hid (show Lg w w5 [(R2, #[.slice none 0 0, .slice none 0 0], 67), (R1, #[.slice a N c, .slice b M d], 67)] [(L5, H5, fun W => PkNew L5 H5 W a5 b5 r q)] from HL4.out.made e5 f5 h (by rw [← e5, ← f5]; exact hn.solid))
    clear h hn hc1 hd1 e5 f5
    go_wp2_with (first
      | ((with_reducible refine @id (wpList _ _ _ (Oper.mk _ (Op.store 67 (.tmp 6) (.tmp 25)) _ _ _ _ :: _) _ _) ?_); refine wpList_put_at rfl 67 (.tmp 6) (.tmp 25) rfl rfl (R2) 0 rfl (.agg #[.slice a5 N c5, .slice b5 M d5]) rfl #[.slice a5 N c5, .slice b5 M d5] rfl 67 #[.slice none 0 0, .slice none 0 0] #[.slice a5 N c5, .slice b5 M d5] (HL5.out.get (.head _)) (by kernel_rfl) (by kernel_rfl) (by kernel_rfl) (by kernel_rfl) ?_; intro w6 g6 o6; have HL6 := Lib.hid (show Lg w w6 [(R2, #[.slice a5 N c5, .slice b5 M d5], 67), (R1, #[.slice a N c, .slice b M d], 67)] [(L5, H5, fun W => PkNew L5 H5 W a5 b5 r q)] from HL5.out.put 0 rfl g6 o6 (List.forall_mem_cons.2 ⟨Nat.ne_of_lt qR2_R1, (fun _ h => nomatch h)⟩) (List.forall_mem_cons.2 ⟨.inr qL5_R2, (fun _ h => nomatch h)⟩) rfl); clear g6 o6))
    exact bodyPost_ret (results_cell_row (p := 6) (ty := 67) (by kernel_rfl) _ _ (R2) 67 _ (0, 0) _ rfl (HL6.out.get (.head _)) Try.underlying67 rfl (by kernel_rfl)) rfl (PkOut.mk HN.out HM.out ((HL6.out.at (.head _)).wide (HL6.out.lo (.head _)) (HL6.out.hi (.head _)).2) HL6.out.below)
  simp only [Bool.not_true] at hrk
  clear c3
  go_wp2_with fail
  refine (l09Num_any n _).mono ?_
  rcases c3 : inB (-2147483648) 2147483647 n
  · rintro e w' ⟨rfl, rfl⟩
    have ht := HNo.out (by rw [HMb.out]; first | rfl | simp [c3])
    subst ht
    go_wp2_with (first
      | ((with_reducible refine @id (wpList _ _ _ (Oper.mk _ (Op.load 67 (.tmp 3)) _ _ _ _ :: _) _ _) ?_); refine wpList_load_at rfl 67 (.tmp 3) rfl (R1) 0 rfl 67 #[.slice a N c, .slice b M d] (0, 0) (HL4.out.get (.tail _ (.head _))) [.slice a N c, .slice b M d] rfl _ Try.underlying67 rfl (by kernel_rfl) ?_))
    refine ((HCp _ (HI.out.kept HL4.out.below) (HJ.out.kept HL4.out.below)).out).mono ?_
    rintro e w5 ⟨a5, c5, b5, d5, rfl, hc1, hd1, hn, h⟩
    obtain ⟨L5, e5⟩ : ∃ x, w4.heap.size = x := ⟨_, rfl⟩
    obtain ⟨H5, f5⟩ : ∃ x, w5.heap.size = x := ⟨_, rfl⟩
    have qL5_R2 : R2 < L5 := Nat.lt_of_lt_of_eq (HL4.out.lt (.head _)) e5
    have qL5_R1 : R1 < L5 := Nat.lt_of_lt_of_eq (HL4.out.lt (.tail _ (.head _))) e5
    have qH5_L5 : L5 ≤ H5 := (by rw [← e5, ← f5]; exact h.size)
    have HL5 := Lib.hid (show Lg w w5 [(R2, #[.slice none 0 0, .slice none 0 0], 67), (R1, #[.slice a N c, .slice b M d], 67)] [(L5, H5, fun W => PkNew L5 H5 W a5 b5 r q)] from HL4.out.made e5 f5 h (by rw [← e5, ← f5]; exact hn.solid))
    clear h hn hc1 hd1 e5 f5
    go_wp2_with (first
      | ((with_reducible refine @id (wpList _ _ _ (Oper.mk _ (Op.store 67 (.tmp 6) (.tmp 25)) _ _ _ _ :: _) _ _) ?_); refine wpList_put_at rfl 67 (.tmp 6) (.tmp 25) rfl rfl (R2) 0 rfl (.agg #[.slice a5 N c5, .slice b5 M d5]) rfl #[.slice a5 N c5, .slice b5 M d5] rfl 67 #[.slice none 0 0, .slice none 0 0] #[.slice a5 N c5, .slice b5 M d5] (HL5.out.get (.head _)) (by kernel_rfl) (by kernel_rfl) (by kernel_rfl) (by kernel_rfl) ?_; intro w6 g6 o6; have HL6 := Lib.hid (show Lg w w6 [(R2, #[.slice a5 N c5, .slice b5 M d5], 67), (R1, #[.slice a N c, .slice b M d], 67)] [(L5, H5, fun W => PkNew L5 H5 W a5 b5 r q)] from HL5.out.put 0 rfl g6 o6 (List.forall_mem_cons.2 ⟨Nat.ne_of_lt qR2_R1, (fun _ h => nomatch h)⟩) (List.forall_mem_cons.2 ⟨.inr qL5_R2, (fun _ h => nomatch h)⟩) rfl); clear g6 o6))
    exact bodyPost_ret (results_cell_row (p := 6) (ty := 67) (by kernel_rfl) _ _ (R2) 67 _ (0, 0) _ rfl (HL6.out.get (.head _)) Try.underlying67 rfl (by kernel_rfl)) rfl (PkOut.mk HN.out HM.out ((HL6.out.at (.head _)).wide (HL6.out.lo (.head _)) (HL6.out.hi (.head _)).2) HL6.out.below)
  rintro e w' ⟨rfl, rfl⟩
  have ht := HYes.out (by rw [HMb.out, c3]; rfl)
  subst ht
  have HGa := Lib.hid (HGd.out (by trivial))
  clear HGd HYes HNo HMb hrk HPR HRk c3
  go_wp2_with (first
    | ((with_reducible refine @id (wpList _ _ _ (Oper.mk _ (Op.load 67 (.tmp 3)) _ _ _ _ :: _) _ _) ?_); refine wpList_load_at rfl 67 (.tmp 3) rfl (R1) 0 rfl 67 #[.slice a N c, .slice b M d] (0, 0) (HL4.out.get (.tail _ (.head _))) [.slice a N c, .slice b M d] rfl _ Try.underlying67 rfl (by kernel_rfl) ?_))
  refine ((HCp _ (HI.out.kept HL4.out.below) (HJ.out.kept HL4.out.below)).out).mono ?_
  rintro e w5 ⟨a5, c5, b5, d5, rfl, hc1, hd1, hn, h⟩
  obtain ⟨L5, e5⟩ : ∃ x, w4.heap.size = x := ⟨_, rfl⟩
  obtain ⟨H5, f5⟩ : ∃ x, w5.heap.size = x := ⟨_, rfl⟩
  have qL5_R2 : R2 < L5 := Nat.lt_of_lt_of_eq (HL4.out.lt (.head _)) e5
  have qL5_R1 : R1 < L5 := Nat.lt_of_lt_of_eq (HL4.out.lt (.tail _ (.head _))) e5
  have qH5_L5 : L5 ≤ H5 := (by rw [← e5, ← f5]; exact h.size)
  have HL5 := Lib.hid (show Lg w w5 [(R2, #[.slice none 0 0, .slice none 0 0], 67), (R1, #[.slice a N c, .slice b M d], 67)] [(L5, H5, fun W => PkNew L5 H5 W a5 b5 r q)] from HL4.out.made e5 f5 h (by rw [← e5, ← f5]; exact hn.solid))
  clear h hn hc1 hd1 e5 f5
  go_wp2_with (first
    | ((with_reducible refine @id (wpList _ _ _ (Oper.mk _ (Op.alloc 67) _ _ _ _ :: _) _ _) ?_); refine wpList_alloc_h rfl 67 rfl (.agg #[.slice none 0 0, .slice none 0 0]) (by kernel_rfl) #[.slice none 0 0, .slice none 0 0] rfl ?_; intro w6 R6 e6 g6 b6; have qR6_R2 : R2 < R6 := Nat.lt_of_lt_of_eq (HL5.out.lt (.head _)) e6; have qR6_R1 : R1 < R6 := Nat.lt_of_lt_of_eq (HL5.out.lt (.tail _ (.head _))) e6; have qR6_H5 : H5 ≤ R6 := Nat.le_trans (HL5.out.hi (.head _)).2 (Nat.le_of_eq e6); have HL6 := Lib.hid (show Lg w w6 [(R6, #[.slice none 0 0, .slice none 0 0], 67), (R2, #[.slice none 0 0, .slice none 0 0], 67), (R1, #[.slice a N c, .slice b M d], 67)] [(L5, H5, fun W => PkNew L5 H5 W a5 b5 r q)] from HL5.out.box e6 g6 b6); clear g6 b6 e6)
    | ((with_reducible refine @id (wpList _ _ _ (Oper.mk _ (Op.store 67 (.tmp 7) (.tmp 27)) _ _ _ _ :: _) _ _) ?_); refine wpList_put_at rfl 67 (.tmp 7) (.tmp 27) rfl rfl (R6) 0 rfl (.agg #[.slice a5 N c5, .slice b5 M d5]) rfl #[.slice a5 N c5, .slice b5 M d5] rfl 67 #[.slice none 0 0, .slice none 0 0] #[.slice a5 N c5, .slice b5 M d5] (HL6.out.get (.head _)) (by kernel_rfl) (by kernel_rfl) (by kernel_rfl) (by kernel_rfl) ?_; intro w7 g7 o7; have HL7 := Lib.hid (show Lg w w7 [(R6, #[.slice a5 N c5, .slice b5 M d5], 67), (R2, #[.slice none 0 0, .slice none 0 0], 67), (R1, #[.slice a N c, .slice b M d], 67)] [(L5, H5, fun W => PkNew L5 H5 W a5 b5 r q)] from HL6.out.put 0 rfl g7 o7 (List.forall_mem_cons.2 ⟨Nat.ne_of_lt qR6_R2, (List.forall_mem_cons.2 ⟨Nat.ne_of_lt qR6_R1, (fun _ h => nomatch h)⟩)⟩) (List.forall_mem_cons.2 ⟨.inl qR6_H5, (fun _ h => nomatch h)⟩) rfl); clear g7 o7))
  clear HCp
  have he := HE0.out
  subst he
  obtain rfl : M = 0 := by have := HM.out; simpa using this.symm
  have HLb := Lib.hid HL7.out.below
  have HJ0 := Lib.hid (HJ.out.kept HL7.out.below)
  have HLt := Lib.hid HL7.out
  clear HJ0 HLb HL1 HL2 HL3 HL4 HL5 HL6 HL7
  go_loopw [8] (fun i wr => ∃ k : Nat, i = .int .i64 (k : Int) ∧ k ≤ 0 ∧ (∀ t, t < k → (hdAt ([] : List Hd) t).s < src) ∧ w7 = wr) (fun i _ => 0 - (intOf i).toNat)
  case atStart => exact ⟨0, rfl, by omega, fun t ht => absurd ht (by omega), rfl⟩
  case round =>
    obtain ⟨k, rfl, hk, hall, rfl⟩ := hrel
    have HA := Lib.hid hall
    clear hall
    obtain ⟨j0, hj, hy0, hy1, hy2⟩ := info_parts Copy.infoH
    have HY := Lib.hid (And.intro hj (And.intro hy0 (And.intro hy1 hy2)))
    clear hj hy0 hy1 hy2
    obtain rfl : k = 0 := by omega
    have HPu := Lib.hid (show ([] : List Hd) ++ ([] : List Hd) ++ [⟨src, n, 0⟩] ++ ([] : List Hd) = putH ([] : List Hd) src n from rfl)
    go_wp2_with (first
      | ((with_reducible refine @id (wpList _ _ _ (Oper.mk _ (Op.load 65 (.tmp 29)) _ _ _ _ :: _) _ _) ?_); refine wpList_load_one (by kernel_rfl) 65 (.tmp 29) rfl (R1) 1 rfl 67 #[.slice a N c, .slice b 0 d] (0, 0) (HLt.out.get (.tail _ (.tail _ (.head _)))) (.slice b 0 d) rfl _ Try.underlying65 rfl (by kernel_rfl) ?_)
      | ((with_reducible refine @id (wpList _ _ _ (Oper.mk _ (Op.buildSlice _ _ _) _ _ _ _ :: _) _ _) ?_); refine wpList_lit0 hdL 3 rfl 65 rfl 112 j0 Try.underlying65 HY.out.1 ?_; intro wA G hg1 hown1 hb1; have HOA := Lib.hid hown1; have gG0 : w.heap.size ≤ G := (by rw [← hg1]; exact HLt.out.below.size); have g_R6 : R6 < G := (by rw [← hg1]; exact HLt.out.lt (.head _)); have g_R2 : R2 < G := (by rw [← hg1]; exact HLt.out.lt (.tail _ (.head _))); have g_R1 : R1 < G := (by rw [← hg1]; exact HLt.out.lt (.tail _ (.tail _ (.head _)))); have g_H5 : H5 ≤ G := (by rw [← hg1]; exact (HLt.out.hi (.head _)).2); have LA := Lib.hid (show Lg w wA [(R6, #[.slice a5 N c5, .slice b5 0 d5], 67), (R2, #[.slice none 0 0, .slice none 0 0], 67), (R1, #[.slice a N c, .slice b 0 d], 67)] [(L5, H5, fun W => PkNew L5 H5 W a5 b5 r [])] from HLt.out.kept hb1); have HSzA := Lib.hid (show G ≤ wA.heap.size from (by rw [← hg1]; exact hb1.size)); clear hown1 hb1 hg1)
      | ((with_reducible refine @id (wpList _ _ _ (Oper.mk _ (Op.load 65 (.tmp 46)) _ _ _ _ :: _) _ _) ?_); refine wpList_load_one (by kernel_rfl) 65 (.tmp 46) rfl (R1) 1 rfl 67 #[.slice a N c, .slice b 0 d] (0, 0) (LA.out.get (.tail _ (.tail _ (.head _)))) (.slice b 0 d) rfl _ Try.underlying65 rfl (by kernel_rfl) ?_)
      | (at_builtin; (with_reducible refine @id (wpList _ _ _ (Oper.mk _ (Op.call (Call.mk _ #[(.tmp 45), (.tmp 49)] _)) _ _ _ _ :: _) _ _) ?_); refine wpList_append_rs hdL_len hdL_one rfl (.tmp 45) (.tmp 49) 65 rfl 112 j0 (.agg #[.int .i64 0, .int .i64 0, .int .i64 0]) 24 Try.underlying65 HY.out.1 HY.out.2.1 HY.out.2.2.1 HY.out.2.2.2 rfl (by decide) G (wA.heap.size) (.slice (some ⟨G, 0, none⟩) 0 0) (([] : List Hd)) rfl HOA.out _ _ (([] : List Hd)) rfl (RsIn.nil _ _) (by have := HM.out; unfold maxLen; simp <;> omega) (by have := HM.out; simp <;> omega) (by have := (LA.out.below.size); have := HSzA.out; omega) ?_; intro vB wB hown2 ho2; have HOB := Lib.hid hown2; have LB := Lib.hid (show Lg w wB [(R6, #[.slice a5 N c5, .slice b5 0 d5], 67), (R2, #[.slice none 0 0, .slice none 0 0], 67), (R1, #[.slice a N c, .slice b 0 d], 67)] [(L5, H5, fun W => PkNew L5 H5 W a5 b5 r [])] from LA.out.out ho2 gG0 (List.forall_mem_cons.2 ⟨Or.inl g_R6, (List.forall_mem_cons.2 ⟨Or.inl g_R2, (List.forall_mem_cons.2 ⟨Or.inl g_R1, (fun _ h => nomatch h)⟩)⟩)⟩) (List.forall_mem_cons.2 ⟨.inl g_H5, (fun _ h => nomatch h)⟩)); have HSzB := Lib.hid (Nat.le_trans HSzA.out ho2.size); clear hown2 ho2)
      | ((with_reducible refine @id (wpList _ _ _ (Oper.mk _ (Op.buildSlice _ _ _) _ _ _ _ :: _) _ _) ?_); refine wpList_lit1 hdL_len rfl 65 (.tmp 54) rfl 112 j0 Try.underlying65 HY.out.1 (.agg #[.int .i64 0, .int .i64 0, .int .i64 0]) HY.out.2.1 HY.out.2.2.1 ⟨src, n, 0⟩ (.agg #[.int .i64 src, .int .i64 n, .int .i64 0]) rfl rfl rfl (by decide) (by decide) ?_; intro wC g2 hg2 hinC hbC; have HIC := Lib.hid hinC; have LC := Lib.hid (show Lg w wC [(R6, #[.slice a5 N c5, .slice b5 0 d5], 67), (R2, #[.slice none 0 0, .slice none 0 0], 67), (R1, #[.slice a N c, .slice b 0 d], 67)] [(L5, H5, fun W => PkNew L5 H5 W a5 b5 r [])] from LB.out.kept hbC); have HOC := Lib.hid (HOB.out.kept hbC); have HSzC := Lib.hid (Nat.le_trans HSzB.out hbC.size); clear hinC hbC)
      | (at_builtin; (with_reducible refine @id (wpList _ _ _ (Oper.mk _ (Op.call (Call.mk _ #[(.tmp 51), (.tmp 55)] _)) _ _ _ _ :: _) _ _) ?_); refine wpList_append_rs hdL_len hdL_one rfl (.tmp 51) (.tmp 55) 65 rfl 112 j0 (.agg #[.int .i64 0, .int .i64 0, .int .i64 0]) 24 Try.underlying65 HY.out.1 HY.out.2.1 HY.out.2.2.1 HY.out.2.2.2 rfl (by decide) G (wB.heap.size) (vB) (([] : List Hd) ++ ([] : List Hd)) rfl HOC.out _ _ ([⟨src, n, 0⟩]) rfl HIC.out (by have := HM.out; unfold maxLen; simp <;> omega) (by have := HM.out; simp <;> omega) (by have := (LC.out.below.size); have := HSzC.out; omega) ?_; intro vD wD hown2 ho2; have HOD := Lib.hid hown2; have LD := Lib.hid (show Lg w wD [(R6, #[.slice a5 N c5, .slice b5 0 d5], 67), (R2, #[.slice none 0 0, .slice none 0 0], 67), (R1, #[.slice a N c, .slice b 0 d], 67)] [(L5, H5, fun W => PkNew L5 H5 W a5 b5 r [])] from LC.out.out ho2 gG0 (List.forall_mem_cons.2 ⟨Or.inl g_R6, (List.forall_mem_cons.2 ⟨Or.inl g_R2, (List.forall_mem_cons.2 ⟨Or.inl g_R1, (fun _ h => nomatch h)⟩)⟩)⟩) (List.forall_mem_cons.2 ⟨.inl g_H5, (fun _ h => nomatch h)⟩)); have HSzD := Lib.hid (Nat.le_trans HSzC.out ho2.size); clear hown2 ho2)
      | ((with_reducible refine @id (wpList _ _ _ (Oper.mk _ (Op.load 65 (.tmp 58)) _ _ _ _ :: _) _ _) ?_); refine wpList_load_one (by kernel_rfl) 65 (.tmp 58) rfl (R1) 1 rfl 67 #[.slice a N c, .slice b 0 d] (0, 0) (LD.out.get (.tail _ (.tail _ (.head _)))) (.slice b 0 d) rfl _ Try.underlying65 rfl (by kernel_rfl) ?_)
      | ((with_reducible refine @id (wpList _ _ _ (Oper.mk _ (Op.load 65 (.tmp 75)) _ _ _ _ :: _) _ _) ?_); refine wpList_load_one (by kernel_rfl) 65 (.tmp 75) rfl (R1) 1 rfl 67 #[.slice a N c, .slice b 0 d] (0, 0) (LD.out.get (.tail _ (.tail _ (.head _)))) (.slice b 0 d) rfl _ Try.underlying65 rfl (by kernel_rfl) ?_)
      | (at_builtin; (with_reducible refine @id (wpList _ _ _ (Oper.mk _ (Op.call (Call.mk _ #[(.tmp 74), (.tmp 78)] _)) _ _ _ _ :: _) _ _) ?_); refine wpList_append_rs hdL_len hdL_one rfl (.tmp 74) (.tmp 78) 65 rfl 112 j0 (.agg #[.int .i64 0, .int .i64 0, .int .i64 0]) 24 Try.underlying65 HY.out.1 HY.out.2.1 HY.out.2.2.1 HY.out.2.2.2 rfl (by decide) G (wD.heap.size) (vD) (([] : List Hd) ++ ([] : List Hd) ++ [⟨src, n, 0⟩]) rfl HOD.out _ _ (([] : List Hd)) rfl (RsIn.nil _ _) (by have := HM.out; unfold maxLen; simp <;> omega) (by have := HM.out; simp <;> omega) (by have := (LD.out.below.size); have := HSzD.out; omega) ?_; intro vE wE hown2 ho2; have HOE := Lib.hid hown2; have LE := Lib.hid (show Lg w wE [(R6, #[.slice a5 N c5, .slice b5 0 d5], 67), (R2, #[.slice none 0 0, .slice none 0 0], 67), (R1, #[.slice a N c, .slice b 0 d], 67)] [(L5, H5, fun W => PkNew L5 H5 W a5 b5 r [])] from LD.out.out ho2 gG0 (List.forall_mem_cons.2 ⟨Or.inl g_R6, (List.forall_mem_cons.2 ⟨Or.inl g_R2, (List.forall_mem_cons.2 ⟨Or.inl g_R1, (fun _ h => nomatch h)⟩)⟩)⟩) (List.forall_mem_cons.2 ⟨.inl g_H5, (fun _ h => nomatch h)⟩)); have HSzE := Lib.hid (Nat.le_trans HSzD.out ho2.size); obtain ⟨aE, cE, rfl, hcE, hnE⟩ := HOE.out.new hdL_len; rw [show ([] : List Hd) ++ ([] : List Hd) ++ [⟨src, n, 0⟩] ++ ([] : List Hd) = putH ([] : List Hd) src n from HPu.out] at hnE ⊢; have HNE := Lib.hid hnE; clear hown2 ho2 hcE hnE)
      | ((with_reducible refine @id (wpList _ _ _ (Oper.mk _ (Op.store 65 (.tmp 80) (.tmp 79)) _ _ _ _ :: _) _ _) ?_); refine wpList_put_at rfl 65 (.tmp 80) (.tmp 79) rfl rfl (R6) 1 rfl (.slice aE (putH ([] : List Hd) src n).length cE) rfl #[.slice aE (putH ([] : List Hd) src n).length cE] rfl 67 #[.slice a5 N c5, .slice b5 0 d5] #[.slice a5 N c5, .slice aE (putH ([] : List Hd) src n).length cE] (LE.out.get (.head _)) (by kernel_rfl) (by kernel_rfl) (by kernel_rfl) (by kernel_rfl) ?_; intro wF gF oF; have HF7 := Lib.hid gF; have HF2 := Lib.hid ((oF.block R2 (LE.out.lt (.tail _ (.head _))) (by omega)).trans (LE.out.get (.tail _ (.head _)))); have HFO := Lib.hid oF; clear gF oF)
      | ((with_reducible refine @id (wpList _ _ _ (Oper.mk _ (Op.load 67 (.tmp 7)) _ _ _ _ :: _) _ _) ?_); refine wpList_load_at rfl 67 (.tmp 7) rfl (R6) 0 rfl 67 #[.slice a5 N c5, .slice aE (putH ([] : List Hd) src n).length cE] (0, 0) HF7.out [.slice a5 N c5, .slice aE (putH ([] : List Hd) src n).length cE] rfl _ Try.underlying67 rfl (by kernel_rfl) ?_)
      | ((with_reducible refine @id (wpList _ _ _ (Oper.mk _ (Op.store 67 (.tmp 6) (.tmp 81)) _ _ _ _ :: _) _ _) ?_); refine wpList_put_at rfl 67 (.tmp 6) (.tmp 81) rfl rfl (R2) 0 rfl (.agg #[.slice a5 N c5, .slice aE (putH ([] : List Hd) src n).length cE]) rfl #[.slice a5 N c5, .slice aE (putH ([] : List Hd) src n).length cE] rfl 67 #[.slice none 0 0, .slice none 0 0] #[.slice a5 N c5, .slice aE (putH ([] : List Hd) src n).length cE] HF2.out (by kernel_rfl) (by kernel_rfl) (by kernel_rfl) (by kernel_rfl) ?_; intro wH gH oH; have HH2 := Lib.hid gH; have HHO := Lib.hid oH; clear gH oH))
    all_goals
      obtain ⟨l1, h1, l2, h2, y1, y2, y3, k1, k2⟩ := LE.out.at (.head _)
      have n1 := LE.out.lo (.head _)
      have n2 := LE.out.ge (.tail _ (.head _))
      have n3 := LE.out.ge (.head _)
      exact bodyPost_ret (results_cell_row (p := 6) (ty := 67) (by kernel_rfl) _ _ (R2) 67 _ (0, 0) _ rfl HH2.out Try.underlying67 rfl (by kernel_rfl)) rfl (PkOut.mk HN.out rfl ⟨l1, h1, G, wE.heap.size, ⟨by omega, y1.2.1, Nat.le_trans y1.2.2 (Nat.le_trans g_H5 (Nat.le_trans HSzE.out (Nat.le_trans HFO.out.size HHO.out.size)))⟩, ⟨gG0, HSzE.out, Nat.le_trans HFO.out.size HHO.out.size⟩, .inl (Nat.le_trans y1.2.2 g_H5), (k1.out HFO.out (.inl (by omega))).out HHO.out (.inr (by omega)), (HNE.out.out HFO.out (.inr (by omega))).out HHO.out (.inr (by omega))⟩ (HHO.out.below (HFO.out.below LE.out.below (by omega) LE.out.below.size) (by omega) (Nat.le_trans LE.out.below.size HFO.out.size)))
set_option maxRecDepth 100000 in
set_option maxHeartbeats 8000000 in
theorem specPickHear_some (a b : Option Addr) (c d : Nat) (r : List Int) (q : List Hd) (src n : Int) (w : World) (h1 : NumsIn w a r) (h2 : RsIn hdL 3 w b q) (hr : r.length ≤ 1048576) (hq : q.length ≤ 1048576) (hdc : q.length ≤ d) (hb : ∃ B o, b = some ⟨B, o, none⟩) :
    Calls Try.prog 46 #[.agg #[.slice a r.length c, .slice b q.length d], .int .i64 src, .int .i64 n] w (PkOut r (hearH r q src n) w) := by
  have HPR := fun W h1 h2 => Lib.hid (specPickerRight_any a b c d r q W h1 h2 (by unfold maxLen; omega) (by unfold maxLen; omega))
  have HRk := fun W h1 => Lib.hid (l09Rank_any a b c d q.length r src W h1 (by unfold maxLen; omega))
  have HCp := fun W h1 h2 => Lib.hid (l09Copy_any a b c d r q W h1 h2 hr hq)
  have hrk := rankI_lt r src
  obtain ⟨V, hV⟩ : ∃ V, pkB r q = V := ⟨_, rfl⟩
  obtain ⟨mem, hmem⟩ : ∃ m, decide (src ∈ r) = m := ⟨_, rfl⟩
  rw [hmem] at hrk
  have HMb := Lib.hid (show mayB r q src n = (V && (mem && inB (-2147483648) 2147483647 n)) by unfold mayB; rw [hV, hmem])
  have HGd := Lib.hid (show V = true → ∀ i, i < q.length → heardAt r q i = true from fun h => (pkB_of (hV.trans h)).2.2)
  have HNo := Lib.hid (show mayB r q src n = false → q = hearH r q src n from fun h => by unfold hearH; rw [h]; rfl)
  have HYes := Lib.hid (show mayB r q src n = true → putH q src n = hearH r q src n from fun h => by unfold hearH; rw [if_pos h])
  rw [hV] at HPR
  generalize mayB r q src n = MB at *
  generalize hearH r q src n = TV at *
  generalize rankI r src = rk at *
  clear hmem hV
  have HI := Lib.hid h1
  have HJ := Lib.hid h2
  clear h1 h2
  obtain ⟨N, hN⟩ : ∃ N, r.length = N := ⟨_, rfl⟩
  obtain ⟨M, hM⟩ : ∃ M, q.length = M := ⟨_, rfl⟩
  have HN := Lib.hid hN
  have HM := Lib.hid hM
  rw [hN] at hr HPR HRk HCp
  rw [hM] at hq HPR HRk HCp hdc
  rw [show (.slice a r.length c : Value) = .slice a N c by rw [hN], show (.slice b q.length d : Value) = .slice b M d by rw [hM]]
  have HB0 := Lib.hid hb
  clear hb
  clear hN hM
  go_enter Try.func46, Try.ntmps46
  go_wp2_with (first
    | ((with_reducible refine @id (wpList _ _ _ (Oper.mk _ (Op.box 67 (.tmp 0)) _ _ _ _ :: _) _ _) ?_); refine wpList_box_h rfl 67 (.tmp 0) rfl #[.slice a N c, .slice b M d] rfl ?_; intro w1 R1 e1 g1 b1; have HL1 := Lib.hid (show Lg w w1 [(R1, #[.slice a N c, .slice b M d], 67)] [] from (Lg.first w).box e1 g1 b1); clear g1 b1 e1)
    | ((with_reducible refine @id (wpList _ _ _ (Oper.mk _ (Op.alloc 67) _ _ _ _ :: _) _ _) ?_); refine wpList_alloc_h rfl 67 rfl (.agg #[.slice none 0 0, .slice none 0 0]) (by kernel_rfl) #[.slice none 0 0, .slice none 0 0] rfl ?_; intro w2 R2 e2 g2 b2; have qR2_R1 : R1 < R2 := Nat.lt_of_lt_of_eq (HL1.out.lt (.head _)) e2; have HL2 := Lib.hid (show Lg w w2 [(R2, #[.slice none 0 0, .slice none 0 0], 67), (R1, #[.slice a N c, .slice b M d], 67)] [] from HL1.out.box e2 g2 b2); clear g2 b2 e2)
    | ((with_reducible refine @id (wpList _ _ _ (Oper.mk _ (Op.load 67 (.tmp 3)) _ _ _ _ :: _) _ _) ?_); refine wpList_load_at rfl 67 (.tmp 3) rfl (R1) 0 rfl 67 #[.slice a N c, .slice b M d] (0, 0) (HL2.out.get (.tail _ (.head _))) [.slice a N c, .slice b M d] rfl _ Try.underlying67 rfl (by kernel_rfl) ?_))
  refine ((HPR _ (HI.out.kept HL2.out.below) (HJ.out.kept HL2.out.below)).out).mono ?_
  rintro e w3 ⟨rfl, h⟩
  have HL3 := Lib.hid (show Lg w w3 [(R2, #[.slice none 0 0, .slice none 0 0], 67), (R1, #[.slice a N c, .slice b M d], 67)] [] from HL2.out.kept h)
  clear h
  have c3 : True := True.intro
  rcases V with _ | _
  · skip
    have ht := HNo.out (by rw [HMb.out]; first | rfl | simp [c3])
    subst ht
    go_wp2_with (first
      | ((with_reducible refine @id (wpList _ _ _ (Oper.mk _ (Op.load 67 (.tmp 3)) _ _ _ _ :: _) _ _) ?_); refine wpList_load_at rfl 67 (.tmp 3) rfl (R1) 0 rfl 67 #[.slice a N c, .slice b M d] (0, 0) (HL3.out.get (.tail _ (.head _))) [.slice a N c, .slice b M d] rfl _ Try.underlying67 rfl (by kernel_rfl) ?_))
    refine ((HCp _ (HI.out.kept HL3.out.below) (HJ.out.kept HL3.out.below)).out).mono ?_
    rintro e w4 ⟨a4, c4, b4, d4, rfl, hc1, hd1, hn, h⟩
    obtain ⟨L4, e4⟩ : ∃ x, w3.heap.size = x := ⟨_, rfl⟩
    obtain ⟨H4, f4⟩ : ∃ x, w4.heap.size = x := ⟨_, rfl⟩
    have qL4_R2 : R2 < L4 := Nat.lt_of_lt_of_eq (HL3.out.lt (.head _)) e4
    have qL4_R1 : R1 < L4 := Nat.lt_of_lt_of_eq (HL3.out.lt (.tail _ (.head _))) e4
    have qH4_L4 : L4 ≤ H4 := (by rw [← e4, ← f4]; exact h.size)
    have HL4 := Lib.hid (show Lg w w4 [(R2, #[.slice none 0 0, .slice none 0 0], 67), (R1, #[.slice a N c, .slice b M d], 67)] [(L4, H4, fun W => PkNew L4 H4 W a4 b4 r q)] from HL3.out.made e4 f4 h (by rw [← e4, ← f4]; exact hn.solid))
    clear h hn hc1 hd1 e4 f4
    go_wp2_with (first
      | ((with_reducible refine @id (wpList _ _ _ (Oper.mk _ (Op.store 67 (.tmp 6) (.tmp 25)) _ _ _ _ :: _) _ _) ?_); refine wpList_put_at rfl 67 (.tmp 6) (.tmp 25) rfl rfl (R2) 0 rfl (.agg #[.slice a4 N c4, .slice b4 M d4]) rfl #[.slice a4 N c4, .slice b4 M d4] rfl 67 #[.slice none 0 0, .slice none 0 0] #[.slice a4 N c4, .slice b4 M d4] (HL4.out.get (.head _)) (by kernel_rfl) (by kernel_rfl) (by kernel_rfl) (by kernel_rfl) ?_; intro w5 g5 o5; have HL5 := Lib.hid (show Lg w w5 [(R2, #[.slice a4 N c4, .slice b4 M d4], 67), (R1, #[.slice a N c, .slice b M d], 67)] [(L4, H4, fun W => PkNew L4 H4 W a4 b4 r q)] from HL4.out.put 0 rfl g5 o5 (List.forall_mem_cons.2 ⟨Nat.ne_of_lt qR2_R1, (fun _ h => nomatch h)⟩) (List.forall_mem_cons.2 ⟨.inr qL4_R2, (fun _ h => nomatch h)⟩) rfl); clear g5 o5))
    exact bodyPost_ret (results_cell_row (p := 6) (ty := 67) (by kernel_rfl) _ _ (R2) 67 _ (0, 0) _ rfl (HL5.out.get (.head _)) Try.underlying67 rfl (by kernel_rfl)) rfl (PkOut.mk HN.out HM.out ((HL5.out.at (.head _)).wide (HL5.out.lo (.head _)) (HL5.out.hi (.head _)).2) HL5.out.below)
  go_wp2_with (first
    | ((with_reducible refine @id (wpList _ _ _ (Oper.mk _ (Op.load 67 (.tmp 3)) _ _ _ _ :: _) _ _) ?_); refine wpList_load_at rfl 67 (.tmp 3) rfl (R1) 0 rfl 67 #[.slice a N c, .slice b M d] (0, 0) (HL3.out.get (.tail _ (.head _))) [.slice a N c, .slice b M d] rfl _ Try.underlying67 rfl (by kernel_rfl) ?_))
  refine ((HRk _ (HI.out.kept HL3.out.below)).out).mono ?_
  rintro e w4 ⟨rfl, h⟩
  have HL4 := Lib.hid (show Lg w w4 [(R2, #[.slice none 0 0, .slice none 0 0], 67), (R1, #[.slice a N c, .slice b M d], 67)] [] from HL3.out.kept h)
  clear h
  rcases mem with _ | _
  · simp only [Bool.not_false] at hrk
    have ht := HNo.out (by rw [HMb.out]; first | rfl | simp [c3])
    subst ht
    go_wp2_with (first
      | ((with_reducible refine @id (wpList _ _ _ (Oper.mk _ (Op.load 67 (.tmp 3)) _ _ _ _ :: _) _ _) ?_); refine wpList_load_at rfl 67 (.tmp 3) rfl (R1) 0 rfl 67 #[.slice a N c, .slice b M d] (0, 0) (HL4.out.get (.tail _ (.head _))) [.slice a N c, .slice b M d] rfl _ Try.underlying67 rfl (by kernel_rfl) ?_))
    refine ((HCp _ (HI.out.kept HL4.out.below) (HJ.out.kept HL4.out.below)).out).mono ?_
    rintro e w5 ⟨a5, c5, b5, d5, rfl, hc1, hd1, hn, h⟩
    obtain ⟨L5, e5⟩ : ∃ x, w4.heap.size = x := ⟨_, rfl⟩
    obtain ⟨H5, f5⟩ : ∃ x, w5.heap.size = x := ⟨_, rfl⟩
    have qL5_R2 : R2 < L5 := Nat.lt_of_lt_of_eq (HL4.out.lt (.head _)) e5
    have qL5_R1 : R1 < L5 := Nat.lt_of_lt_of_eq (HL4.out.lt (.tail _ (.head _))) e5
    have qH5_L5 : L5 ≤ H5 := (by rw [← e5, ← f5]; exact h.size)
    have HL5 := Lib.hid (show Lg w w5 [(R2, #[.slice none 0 0, .slice none 0 0], 67), (R1, #[.slice a N c, .slice b M d], 67)] [(L5, H5, fun W => PkNew L5 H5 W a5 b5 r q)] from HL4.out.made e5 f5 h (by rw [← e5, ← f5]; exact hn.solid))
    clear h hn hc1 hd1 e5 f5
    go_wp2_with (first
      | ((with_reducible refine @id (wpList _ _ _ (Oper.mk _ (Op.store 67 (.tmp 6) (.tmp 25)) _ _ _ _ :: _) _ _) ?_); refine wpList_put_at rfl 67 (.tmp 6) (.tmp 25) rfl rfl (R2) 0 rfl (.agg #[.slice a5 N c5, .slice b5 M d5]) rfl #[.slice a5 N c5, .slice b5 M d5] rfl 67 #[.slice none 0 0, .slice none 0 0] #[.slice a5 N c5, .slice b5 M d5] (HL5.out.get (.head _)) (by kernel_rfl) (by kernel_rfl) (by kernel_rfl) (by kernel_rfl) ?_; intro w6 g6 o6; have HL6 := Lib.hid (show Lg w w6 [(R2, #[.slice a5 N c5, .slice b5 M d5], 67), (R1, #[.slice a N c, .slice b M d], 67)] [(L5, H5, fun W => PkNew L5 H5 W a5 b5 r q)] from HL5.out.put 0 rfl g6 o6 (List.forall_mem_cons.2 ⟨Nat.ne_of_lt qR2_R1, (fun _ h => nomatch h)⟩) (List.forall_mem_cons.2 ⟨.inr qL5_R2, (fun _ h => nomatch h)⟩) rfl); clear g6 o6))
    exact bodyPost_ret (results_cell_row (p := 6) (ty := 67) (by kernel_rfl) _ _ (R2) 67 _ (0, 0) _ rfl (HL6.out.get (.head _)) Try.underlying67 rfl (by kernel_rfl)) rfl (PkOut.mk HN.out HM.out ((HL6.out.at (.head _)).wide (HL6.out.lo (.head _)) (HL6.out.hi (.head _)).2) HL6.out.below)
  simp only [Bool.not_true] at hrk
  clear c3
  go_wp2_with fail
  refine (l09Num_any n _).mono ?_
  rcases c3 : inB (-2147483648) 2147483647 n
  · rintro e w' ⟨rfl, rfl⟩
    have ht := HNo.out (by rw [HMb.out]; first | rfl | simp [c3])
    subst ht
    go_wp2_with (first
      | ((with_reducible refine @id (wpList _ _ _ (Oper.mk _ (Op.load 67 (.tmp 3)) _ _ _ _ :: _) _ _) ?_); refine wpList_load_at rfl 67 (.tmp 3) rfl (R1) 0 rfl 67 #[.slice a N c, .slice b M d] (0, 0) (HL4.out.get (.tail _ (.head _))) [.slice a N c, .slice b M d] rfl _ Try.underlying67 rfl (by kernel_rfl) ?_))
    refine ((HCp _ (HI.out.kept HL4.out.below) (HJ.out.kept HL4.out.below)).out).mono ?_
    rintro e w5 ⟨a5, c5, b5, d5, rfl, hc1, hd1, hn, h⟩
    obtain ⟨L5, e5⟩ : ∃ x, w4.heap.size = x := ⟨_, rfl⟩
    obtain ⟨H5, f5⟩ : ∃ x, w5.heap.size = x := ⟨_, rfl⟩
    have qL5_R2 : R2 < L5 := Nat.lt_of_lt_of_eq (HL4.out.lt (.head _)) e5
    have qL5_R1 : R1 < L5 := Nat.lt_of_lt_of_eq (HL4.out.lt (.tail _ (.head _))) e5
    have qH5_L5 : L5 ≤ H5 := (by rw [← e5, ← f5]; exact h.size)
    have HL5 := Lib.hid (show Lg w w5 [(R2, #[.slice none 0 0, .slice none 0 0], 67), (R1, #[.slice a N c, .slice b M d], 67)] [(L5, H5, fun W => PkNew L5 H5 W a5 b5 r q)] from HL4.out.made e5 f5 h (by rw [← e5, ← f5]; exact hn.solid))
    clear h hn hc1 hd1 e5 f5
    go_wp2_with (first
      | ((with_reducible refine @id (wpList _ _ _ (Oper.mk _ (Op.store 67 (.tmp 6) (.tmp 25)) _ _ _ _ :: _) _ _) ?_); refine wpList_put_at rfl 67 (.tmp 6) (.tmp 25) rfl rfl (R2) 0 rfl (.agg #[.slice a5 N c5, .slice b5 M d5]) rfl #[.slice a5 N c5, .slice b5 M d5] rfl 67 #[.slice none 0 0, .slice none 0 0] #[.slice a5 N c5, .slice b5 M d5] (HL5.out.get (.head _)) (by kernel_rfl) (by kernel_rfl) (by kernel_rfl) (by kernel_rfl) ?_; intro w6 g6 o6; have HL6 := Lib.hid (show Lg w w6 [(R2, #[.slice a5 N c5, .slice b5 M d5], 67), (R1, #[.slice a N c, .slice b M d], 67)] [(L5, H5, fun W => PkNew L5 H5 W a5 b5 r q)] from HL5.out.put 0 rfl g6 o6 (List.forall_mem_cons.2 ⟨Nat.ne_of_lt qR2_R1, (fun _ h => nomatch h)⟩) (List.forall_mem_cons.2 ⟨.inr qL5_R2, (fun _ h => nomatch h)⟩) rfl); clear g6 o6))
    exact bodyPost_ret (results_cell_row (p := 6) (ty := 67) (by kernel_rfl) _ _ (R2) 67 _ (0, 0) _ rfl (HL6.out.get (.head _)) Try.underlying67 rfl (by kernel_rfl)) rfl (PkOut.mk HN.out HM.out ((HL6.out.at (.head _)).wide (HL6.out.lo (.head _)) (HL6.out.hi (.head _)).2) HL6.out.below)
  rintro e w' ⟨rfl, rfl⟩
  have ht := HYes.out (by rw [HMb.out, c3]; rfl)
  subst ht
  have HGa := Lib.hid (HGd.out (by trivial))
  clear HGd HYes HNo HMb hrk HPR HRk c3
  go_wp2_with (first
    | ((with_reducible refine @id (wpList _ _ _ (Oper.mk _ (Op.load 67 (.tmp 3)) _ _ _ _ :: _) _ _) ?_); refine wpList_load_at rfl 67 (.tmp 3) rfl (R1) 0 rfl 67 #[.slice a N c, .slice b M d] (0, 0) (HL4.out.get (.tail _ (.head _))) [.slice a N c, .slice b M d] rfl _ Try.underlying67 rfl (by kernel_rfl) ?_))
  refine ((HCp _ (HI.out.kept HL4.out.below) (HJ.out.kept HL4.out.below)).out).mono ?_
  rintro e w5 ⟨a5, c5, b5, d5, rfl, hc1, hd1, hn, h⟩
  obtain ⟨L5, e5⟩ : ∃ x, w4.heap.size = x := ⟨_, rfl⟩
  obtain ⟨H5, f5⟩ : ∃ x, w5.heap.size = x := ⟨_, rfl⟩
  have qL5_R2 : R2 < L5 := Nat.lt_of_lt_of_eq (HL4.out.lt (.head _)) e5
  have qL5_R1 : R1 < L5 := Nat.lt_of_lt_of_eq (HL4.out.lt (.tail _ (.head _))) e5
  have qH5_L5 : L5 ≤ H5 := (by rw [← e5, ← f5]; exact h.size)
  have HL5 := Lib.hid (show Lg w w5 [(R2, #[.slice none 0 0, .slice none 0 0], 67), (R1, #[.slice a N c, .slice b M d], 67)] [(L5, H5, fun W => PkNew L5 H5 W a5 b5 r q)] from HL4.out.made e5 f5 h (by rw [← e5, ← f5]; exact hn.solid))
  clear h hn hc1 hd1 e5 f5
  go_wp2_with (first
    | ((with_reducible refine @id (wpList _ _ _ (Oper.mk _ (Op.alloc 67) _ _ _ _ :: _) _ _) ?_); refine wpList_alloc_h rfl 67 rfl (.agg #[.slice none 0 0, .slice none 0 0]) (by kernel_rfl) #[.slice none 0 0, .slice none 0 0] rfl ?_; intro w6 R6 e6 g6 b6; have qR6_R2 : R2 < R6 := Nat.lt_of_lt_of_eq (HL5.out.lt (.head _)) e6; have qR6_R1 : R1 < R6 := Nat.lt_of_lt_of_eq (HL5.out.lt (.tail _ (.head _))) e6; have qR6_H5 : H5 ≤ R6 := Nat.le_trans (HL5.out.hi (.head _)).2 (Nat.le_of_eq e6); have HL6 := Lib.hid (show Lg w w6 [(R6, #[.slice none 0 0, .slice none 0 0], 67), (R2, #[.slice none 0 0, .slice none 0 0], 67), (R1, #[.slice a N c, .slice b M d], 67)] [(L5, H5, fun W => PkNew L5 H5 W a5 b5 r q)] from HL5.out.box e6 g6 b6); clear g6 b6 e6)
    | ((with_reducible refine @id (wpList _ _ _ (Oper.mk _ (Op.store 67 (.tmp 7) (.tmp 27)) _ _ _ _ :: _) _ _) ?_); refine wpList_put_at rfl 67 (.tmp 7) (.tmp 27) rfl rfl (R6) 0 rfl (.agg #[.slice a5 N c5, .slice b5 M d5]) rfl #[.slice a5 N c5, .slice b5 M d5] rfl 67 #[.slice none 0 0, .slice none 0 0] #[.slice a5 N c5, .slice b5 M d5] (HL6.out.get (.head _)) (by kernel_rfl) (by kernel_rfl) (by kernel_rfl) (by kernel_rfl) ?_; intro w7 g7 o7; have HL7 := Lib.hid (show Lg w w7 [(R6, #[.slice a5 N c5, .slice b5 M d5], 67), (R2, #[.slice none 0 0, .slice none 0 0], 67), (R1, #[.slice a N c, .slice b M d], 67)] [(L5, H5, fun W => PkNew L5 H5 W a5 b5 r q)] from HL6.out.put 0 rfl g7 o7 (List.forall_mem_cons.2 ⟨Nat.ne_of_lt qR6_R2, (List.forall_mem_cons.2 ⟨Nat.ne_of_lt qR6_R1, (fun _ h => nomatch h)⟩)⟩) (List.forall_mem_cons.2 ⟨.inl qR6_H5, (fun _ h => nomatch h)⟩) rfl); clear g7 o7))
  clear HCp
  obtain ⟨B, o, rfl⟩ := HB0.out
  have HLb := Lib.hid HL7.out.below
  have HJ0 := Lib.hid (HJ.out.kept HL7.out.below)
  have HLt := Lib.hid HL7.out
  clear HJ0 HLb HL1 HL2 HL3 HL4 HL5 HL6 HL7
  go_loopw [8] (fun i wr => ∃ k : Nat, i = .int .i64 (k : Int) ∧ k ≤ M ∧ (∀ t, t < k → (hdAt q t).s < src) ∧ w7 = wr) (fun i _ => M - (intOf i).toNat)
  case atStart => exact ⟨0, rfl, by omega, fun t ht => absurd ht (by omega), rfl⟩
  case round =>
    obtain ⟨k, rfl, hk, hall, rfl⟩ := hrel
    have HA := Lib.hid hall
    clear hall
    obtain ⟨j0, hj, hy0, hy1, hy2⟩ := info_parts Copy.infoH
    have HY := Lib.hid (And.intro hj (And.intro hy0 (And.intro hy1 hy2)))
    clear hj hy0 hy1 hy2
    have hkd : (k : Int) ≤ (d : Int) := by omega
    have HTk := Lib.hid (show (q.take k).length = k by rw [List.length_take]; have := HM.out; omega)
    by_cases hkn : k < M
    · have hkl : k < q.length := by have := HM.out; omega
      have hi1 : (0 : Int) ≤ (k : Int) := by omega
      have hi2 : (k : Int) < (M : Int) := by omega
      have hi3 : (k : Int) ≤ (M : Int) := by omega
      obtain ⟨B2, o2, hBo, lBk, hcs⟩ := HJ.out.at (by omega)
      simp only [Option.some.injEq, Addr.mk.injEq, and_true] at hBo
      obtain ⟨rfl, rfl⟩ := hBo
      obtain ⟨ks, hks⟩ : ∃ x, (hdAt q k).s = x := ⟨_, rfl⟩
      have HCk := Lib.hid (show ∀ W, Below w.heap.size w W → W.cell? ⟨B, o + k * 3, none⟩ = some (.int .i64 ks) from fun W h => (h.cell (p := ⟨B, o + k * 3, none⟩) lBk).trans (hks ▸ hcs k _ (hdAt_some hkl) 0 _ rfl))
      have HKs := Lib.hid hks
      clear hcs hks
      by_cases hlt : ks < src
      · have hdl : decide (ks < src) = true := decide_eq_true hlt
        have hall2 := Lib.hid (show ∀ t, t < k + 1 → (hdAt q t).s < src from fun t ht => (Nat.lt_or_ge t k).elim (HA.out t) (fun g => (show t = k by omega) ▸ (by rw [HKs.out]; exact hlt)))
        clear hlt
        go_wp2_with (first
          | ((with_reducible refine @id (wpList _ _ _ (Oper.mk _ (Op.load 65 (.tmp 29)) _ _ _ _ :: _) _ _) ?_); refine wpList_load_one (by kernel_rfl) 65 (.tmp 29) rfl (R1) 1 rfl 67 #[.slice a N c, .slice (some ⟨B, o, none⟩) M d] (0, 0) (HLt.out.get (.tail _ (.tail _ (.head _)))) (.slice (some ⟨B, o, none⟩) M d) rfl _ Try.underlying65 rfl (by kernel_rfl) ?_)
          | ((with_reducible refine @id (wpList _ _ _ (Oper.mk _ (Op.load 65 (.tmp 34)) _ _ _ _ :: _) _ _) ?_); refine wpList_load_one (by kernel_rfl) 65 (.tmp 34) rfl (R1) 1 rfl 67 #[.slice a N c, .slice (some ⟨B, o, none⟩) M d] (0, 0) (HLt.out.get (.tail _ (.tail _ (.head _)))) (.slice (some ⟨B, o, none⟩) M d) rfl _ Try.underlying65 rfl (by kernel_rfl) ?_)
          | ((with_reducible refine @id (wpList _ _ _ (Oper.mk _ (Op.load 2 (.tmp 38)) _ _ _ _ :: _) _ _) ?_); refine wpList_load_one1 (by kernel_rfl) 2 (.tmp 38) rfl B (o + k * 3) rfl (.int .i64 ks) (HCk.out _ HLt.out.below) _ Try.underlying2 rfl ?_))
        go_roundw
        case rel => exact ⟨k + 1, by go_num, by omega, hall2.out, by first | rfl | trivial⟩
        case measure => simp [intOf]; omega
      have hdl : decide (ks < src) = false := decide_eq_false hlt
      have HKc := Lib.hid (cntS_of HGa.out (Nat.le_of_lt hkl) HA.out (fun _ => by rw [HKs.out]; omega))
      by_cases heq : ks = src
      · have hqb : (ks == src) = true := by simp [heq]
        obtain ⟨e, he⟩ : ∃ e, k + 1 = e := ⟨_, rfl⟩
        have HPu := Lib.hid (show ([] : List Hd) ++ q.take k ++ [⟨src, n, 0⟩] ++ q.drop e = putH q src n from by
          rw [putH_form HKc.out (show e = _ by rw [hdS_at hkl, HKs.out, heq, if_pos rfl]; exact he.symm)]
          simp)
        have hwe : IntKind.i64.wrap ((k : Int) + 1) = (e : Int) := by rw [IntWalk.i64_in _ (by omega)]; omega
        have hie : (0 : Int) ≤ (e : Int) := by omega
        have hie2 : (e : Int) ≤ (M : Int) := by omega
        have HDe := Lib.hid (show (q.drop e).length = M - e by rw [List.length_drop, HM.out])
        by_cases hem : e = M
        · have HDn := Lib.hid (show q.drop e = [] from List.drop_eq_nil_of_le (by have := HM.out; omega))
          clear hlt heq he hem
          go_wp2_with (first
            | ((with_reducible refine @id (wpList _ _ _ (Oper.mk _ (Op.load 65 (.tmp 29)) _ _ _ _ :: _) _ _) ?_); refine wpList_load_one (by kernel_rfl) 65 (.tmp 29) rfl (R1) 1 rfl 67 #[.slice a N c, .slice (some ⟨B, o, none⟩) M d] (0, 0) (HLt.out.get (.tail _ (.tail _ (.head _)))) (.slice (some ⟨B, o, none⟩) M d) rfl _ Try.underlying65 rfl (by kernel_rfl) ?_)
            | ((with_reducible refine @id (wpList _ _ _ (Oper.mk _ (Op.load 65 (.tmp 34)) _ _ _ _ :: _) _ _) ?_); refine wpList_load_one (by kernel_rfl) 65 (.tmp 34) rfl (R1) 1 rfl 67 #[.slice a N c, .slice (some ⟨B, o, none⟩) M d] (0, 0) (HLt.out.get (.tail _ (.tail _ (.head _)))) (.slice (some ⟨B, o, none⟩) M d) rfl _ Try.underlying65 rfl (by kernel_rfl) ?_)
            | ((with_reducible refine @id (wpList _ _ _ (Oper.mk _ (Op.load 2 (.tmp 38)) _ _ _ _ :: _) _ _) ?_); refine wpList_load_one1 (by kernel_rfl) 2 (.tmp 38) rfl B (o + k * 3) rfl (.int .i64 ks) (HCk.out _ HLt.out.below) _ Try.underlying2 rfl ?_)
            | ((with_reducible refine @id (wpList _ _ _ (Oper.mk _ (Op.buildSlice _ _ _) _ _ _ _ :: _) _ _) ?_); refine wpList_lit0 hdL 3 rfl 65 rfl 112 j0 Try.underlying65 HY.out.1 ?_; intro wA G hg1 hown1 hb1; have HOA := Lib.hid hown1; have gG0 : w.heap.size ≤ G := (by rw [← hg1]; exact HLt.out.below.size); have g_R6 : R6 < G := (by rw [← hg1]; exact HLt.out.lt (.head _)); have g_R2 : R2 < G := (by rw [← hg1]; exact HLt.out.lt (.tail _ (.head _))); have g_R1 : R1 < G := (by rw [← hg1]; exact HLt.out.lt (.tail _ (.tail _ (.head _)))); have g_H5 : H5 ≤ G := (by rw [← hg1]; exact (HLt.out.hi (.head _)).2); have LA := Lib.hid (show Lg w wA [(R6, #[.slice a5 N c5, .slice b5 M d5], 67), (R2, #[.slice none 0 0, .slice none 0 0], 67), (R1, #[.slice a N c, .slice (some ⟨B, o, none⟩) M d], 67)] [(L5, H5, fun W => PkNew L5 H5 W a5 b5 r q)] from HLt.out.kept hb1); have HSzA := Lib.hid (show G ≤ wA.heap.size from (by rw [← hg1]; exact hb1.size)); clear hown1 hb1 hg1)
            | ((with_reducible refine @id (wpList _ _ _ (Oper.mk _ (Op.load 65 (.tmp 46)) _ _ _ _ :: _) _ _) ?_); refine wpList_load_one (by kernel_rfl) 65 (.tmp 46) rfl (R1) 1 rfl 67 #[.slice a N c, .slice (some ⟨B, o, none⟩) M d] (0, 0) (LA.out.get (.tail _ (.tail _ (.head _)))) (.slice (some ⟨B, o, none⟩) M d) rfl _ Try.underlying65 rfl (by kernel_rfl) ?_)
            | (at_builtin; (with_reducible refine @id (wpList _ _ _ (Oper.mk _ (Op.call (Call.mk _ #[(.tmp 45), (.tmp 49)] _)) _ _ _ _ :: _) _ _) ?_); refine wpList_append_rs hdL_len hdL_one rfl (.tmp 45) (.tmp 49) 65 rfl 112 j0 (.agg #[.int .i64 0, .int .i64 0, .int .i64 0]) 24 Try.underlying65 HY.out.1 HY.out.2.1 HY.out.2.2.1 HY.out.2.2.2 rfl (by decide) G (wA.heap.size) (.slice (some ⟨G, 0, none⟩) 0 0) (([] : List Hd)) rfl HOA.out _ _ (q.take k) (slice_len rfl HTk.out) ((HJ.out.kept LA.out.below).take k) (by have := HM.out; unfold maxLen; simp <;> omega) (by have := HM.out; simp <;> omega) (by have := (LA.out.below.size); have := HSzA.out; omega) ?_; intro vB wB hown2 ho2; have HOB := Lib.hid hown2; have LB := Lib.hid (show Lg w wB [(R6, #[.slice a5 N c5, .slice b5 M d5], 67), (R2, #[.slice none 0 0, .slice none 0 0], 67), (R1, #[.slice a N c, .slice (some ⟨B, o, none⟩) M d], 67)] [(L5, H5, fun W => PkNew L5 H5 W a5 b5 r q)] from LA.out.out ho2 gG0 (List.forall_mem_cons.2 ⟨Or.inl g_R6, (List.forall_mem_cons.2 ⟨Or.inl g_R2, (List.forall_mem_cons.2 ⟨Or.inl g_R1, (fun _ h => nomatch h)⟩)⟩)⟩) (List.forall_mem_cons.2 ⟨.inl g_H5, (fun _ h => nomatch h)⟩)); have HSzB := Lib.hid (Nat.le_trans HSzA.out ho2.size); clear hown2 ho2)
            | ((with_reducible refine @id (wpList _ _ _ (Oper.mk _ (Op.buildSlice _ _ _) _ _ _ _ :: _) _ _) ?_); refine wpList_lit1 hdL_len rfl 65 (.tmp 54) rfl 112 j0 Try.underlying65 HY.out.1 (.agg #[.int .i64 0, .int .i64 0, .int .i64 0]) HY.out.2.1 HY.out.2.2.1 ⟨src, n, 0⟩ (.agg #[.int .i64 src, .int .i64 n, .int .i64 0]) rfl rfl rfl (by decide) (by decide) ?_; intro wC g2 hg2 hinC hbC; have HIC := Lib.hid hinC; have LC := Lib.hid (show Lg w wC [(R6, #[.slice a5 N c5, .slice b5 M d5], 67), (R2, #[.slice none 0 0, .slice none 0 0], 67), (R1, #[.slice a N c, .slice (some ⟨B, o, none⟩) M d], 67)] [(L5, H5, fun W => PkNew L5 H5 W a5 b5 r q)] from LB.out.kept hbC); have HOC := Lib.hid (HOB.out.kept hbC); have HSzC := Lib.hid (Nat.le_trans HSzB.out hbC.size); clear hinC hbC)
            | (at_builtin; (with_reducible refine @id (wpList _ _ _ (Oper.mk _ (Op.call (Call.mk _ #[(.tmp 51), (.tmp 55)] _)) _ _ _ _ :: _) _ _) ?_); refine wpList_append_rs hdL_len hdL_one rfl (.tmp 51) (.tmp 55) 65 rfl 112 j0 (.agg #[.int .i64 0, .int .i64 0, .int .i64 0]) 24 Try.underlying65 HY.out.1 HY.out.2.1 HY.out.2.2.1 HY.out.2.2.2 rfl (by decide) G (wB.heap.size) (vB) (([] : List Hd) ++ q.take k) rfl HOC.out _ _ ([⟨src, n, 0⟩]) rfl HIC.out (by have := HM.out; unfold maxLen; simp <;> omega) (by have := HM.out; simp <;> omega) (by have := (LC.out.below.size); have := HSzC.out; omega) ?_; intro vD wD hown2 ho2; have HOD := Lib.hid hown2; have LD := Lib.hid (show Lg w wD [(R6, #[.slice a5 N c5, .slice b5 M d5], 67), (R2, #[.slice none 0 0, .slice none 0 0], 67), (R1, #[.slice a N c, .slice (some ⟨B, o, none⟩) M d], 67)] [(L5, H5, fun W => PkNew L5 H5 W a5 b5 r q)] from LC.out.out ho2 gG0 (List.forall_mem_cons.2 ⟨Or.inl g_R6, (List.forall_mem_cons.2 ⟨Or.inl g_R2, (List.forall_mem_cons.2 ⟨Or.inl g_R1, (fun _ h => nomatch h)⟩)⟩)⟩) (List.forall_mem_cons.2 ⟨.inl g_H5, (fun _ h => nomatch h)⟩)); have HSzD := Lib.hid (Nat.le_trans HSzC.out ho2.size); clear hown2 ho2)
            | ((with_reducible refine @id (wpList _ _ _ (Oper.mk _ (Op.load 65 (.tmp 58)) _ _ _ _ :: _) _ _) ?_); refine wpList_load_one (by kernel_rfl) 65 (.tmp 58) rfl (R1) 1 rfl 67 #[.slice a N c, .slice (some ⟨B, o, none⟩) M d] (0, 0) (LD.out.get (.tail _ (.tail _ (.head _)))) (.slice (some ⟨B, o, none⟩) M d) rfl _ Try.underlying65 rfl (by kernel_rfl) ?_)
            | ((with_reducible refine @id (wpList _ _ _ (Oper.mk _ (Op.load 65 (.tmp 63)) _ _ _ _ :: _) _ _) ?_); refine wpList_load_one (by kernel_rfl) 65 (.tmp 63) rfl (R1) 1 rfl 67 #[.slice a N c, .slice (some ⟨B, o, none⟩) M d] (0, 0) (LD.out.get (.tail _ (.tail _ (.head _)))) (.slice (some ⟨B, o, none⟩) M d) rfl _ Try.underlying65 rfl (by kernel_rfl) ?_)
            | ((with_reducible refine @id (wpList _ _ _ (Oper.mk _ (Op.load 2 (.tmp 67)) _ _ _ _ :: _) _ _) ?_); refine wpList_load_one1 (by kernel_rfl) 2 (.tmp 67) rfl B (o + k * 3) rfl (.int .i64 ks) (HCk.out _ LD.out.below) _ Try.underlying2 rfl ?_)
            | ((with_reducible refine @id (wpList _ _ _ (Oper.mk _ (Op.load 65 (.tmp 75)) _ _ _ _ :: _) _ _) ?_); refine wpList_load_one (by kernel_rfl) 65 (.tmp 75) rfl (R1) 1 rfl 67 #[.slice a N c, .slice (some ⟨B, o, none⟩) M d] (0, 0) (LD.out.get (.tail _ (.tail _ (.head _)))) (.slice (some ⟨B, o, none⟩) M d) rfl _ Try.underlying65 rfl (by kernel_rfl) ?_)
            | (at_builtin; (with_reducible refine @id (wpList _ _ _ (Oper.mk _ (Op.call (Call.mk _ #[(.tmp 74), (.tmp 78)] _)) _ _ _ _ :: _) _ _) ?_); refine wpList_append_rs hdL_len hdL_one rfl (.tmp 74) (.tmp 78) 65 rfl 112 j0 (.agg #[.int .i64 0, .int .i64 0, .int .i64 0]) 24 Try.underlying65 HY.out.1 HY.out.2.1 HY.out.2.2.1 HY.out.2.2.2 rfl (by decide) G (wD.heap.size) (vD) (([] : List Hd) ++ q.take k ++ [⟨src, n, 0⟩]) rfl HOD.out _ _ (q.drop e) (slice_len rfl HDe.out) (.inl HDn.out) (by have := HM.out; unfold maxLen; simp <;> omega) (by have := HM.out; simp <;> omega) (by have := (LD.out.below.size); have := HSzD.out; omega) ?_; intro vE wE hown2 ho2; have HOE := Lib.hid hown2; have LE := Lib.hid (show Lg w wE [(R6, #[.slice a5 N c5, .slice b5 M d5], 67), (R2, #[.slice none 0 0, .slice none 0 0], 67), (R1, #[.slice a N c, .slice (some ⟨B, o, none⟩) M d], 67)] [(L5, H5, fun W => PkNew L5 H5 W a5 b5 r q)] from LD.out.out ho2 gG0 (List.forall_mem_cons.2 ⟨Or.inl g_R6, (List.forall_mem_cons.2 ⟨Or.inl g_R2, (List.forall_mem_cons.2 ⟨Or.inl g_R1, (fun _ h => nomatch h)⟩)⟩)⟩) (List.forall_mem_cons.2 ⟨.inl g_H5, (fun _ h => nomatch h)⟩)); have HSzE := Lib.hid (Nat.le_trans HSzD.out ho2.size); obtain ⟨aE, cE, rfl, hcE, hnE⟩ := HOE.out.new hdL_len; rw [show ([] : List Hd) ++ q.take k ++ [⟨src, n, 0⟩] ++ q.drop e = putH q src n from HPu.out] at hnE ⊢; have HNE := Lib.hid hnE; clear hown2 ho2 hcE hnE)
            | ((with_reducible refine @id (wpList _ _ _ (Oper.mk _ (Op.store 65 (.tmp 80) (.tmp 79)) _ _ _ _ :: _) _ _) ?_); refine wpList_put_at rfl 65 (.tmp 80) (.tmp 79) rfl rfl (R6) 1 rfl (.slice aE (putH q src n).length cE) rfl #[.slice aE (putH q src n).length cE] rfl 67 #[.slice a5 N c5, .slice b5 M d5] #[.slice a5 N c5, .slice aE (putH q src n).length cE] (LE.out.get (.head _)) (by kernel_rfl) (by kernel_rfl) (by kernel_rfl) (by kernel_rfl) ?_; intro wF gF oF; have HF7 := Lib.hid gF; have HF2 := Lib.hid ((oF.block R2 (LE.out.lt (.tail _ (.head _))) (by omega)).trans (LE.out.get (.tail _ (.head _)))); have HFO := Lib.hid oF; clear gF oF)
            | ((with_reducible refine @id (wpList _ _ _ (Oper.mk _ (Op.load 67 (.tmp 7)) _ _ _ _ :: _) _ _) ?_); refine wpList_load_at rfl 67 (.tmp 7) rfl (R6) 0 rfl 67 #[.slice a5 N c5, .slice aE (putH q src n).length cE] (0, 0) HF7.out [.slice a5 N c5, .slice aE (putH q src n).length cE] rfl _ Try.underlying67 rfl (by kernel_rfl) ?_)
            | ((with_reducible refine @id (wpList _ _ _ (Oper.mk _ (Op.store 67 (.tmp 6) (.tmp 81)) _ _ _ _ :: _) _ _) ?_); refine wpList_put_at rfl 67 (.tmp 6) (.tmp 81) rfl rfl (R2) 0 rfl (.agg #[.slice a5 N c5, .slice aE (putH q src n).length cE]) rfl #[.slice a5 N c5, .slice aE (putH q src n).length cE] rfl 67 #[.slice none 0 0, .slice none 0 0] #[.slice a5 N c5, .slice aE (putH q src n).length cE] HF2.out (by kernel_rfl) (by kernel_rfl) (by kernel_rfl) (by kernel_rfl) ?_; intro wH gH oH; have HH2 := Lib.hid gH; have HHO := Lib.hid oH; clear gH oH))
          all_goals
            obtain ⟨l1, h1, l2, h2, y1, y2, y3, k1, k2⟩ := LE.out.at (.head _)
            have n1 := LE.out.lo (.head _)
            have n2 := LE.out.ge (.tail _ (.head _))
            have n3 := LE.out.ge (.head _)
            exact bodyPost_ret (results_cell_row (p := 6) (ty := 67) (by kernel_rfl) _ _ (R2) 67 _ (0, 0) _ rfl HH2.out Try.underlying67 rfl (by kernel_rfl)) rfl (PkOut.mk HN.out rfl ⟨l1, h1, G, wE.heap.size, ⟨by omega, y1.2.1, Nat.le_trans y1.2.2 (Nat.le_trans g_H5 (Nat.le_trans HSzE.out (Nat.le_trans HFO.out.size HHO.out.size)))⟩, ⟨gG0, HSzE.out, Nat.le_trans HFO.out.size HHO.out.size⟩, .inl (Nat.le_trans y1.2.2 g_H5), (k1.out HFO.out (.inl (by omega))).out HHO.out (.inr (by omega)), (HNE.out.out HFO.out (.inr (by omega))).out HHO.out (.inr (by omega))⟩ (HHO.out.below (HFO.out.below LE.out.below (by omega) LE.out.below.size) (by omega) (Nat.le_trans LE.out.below.size HFO.out.size)))
        · have hde : ¬ (d = e) := by omega
          clear hlt heq he hem
          go_wp2_with (first
            | ((with_reducible refine @id (wpList _ _ _ (Oper.mk _ (Op.load 65 (.tmp 29)) _ _ _ _ :: _) _ _) ?_); refine wpList_load_one (by kernel_rfl) 65 (.tmp 29) rfl (R1) 1 rfl 67 #[.slice a N c, .slice (some ⟨B, o, none⟩) M d] (0, 0) (HLt.out.get (.tail _ (.tail _ (.head _)))) (.slice (some ⟨B, o, none⟩) M d) rfl _ Try.underlying65 rfl (by kernel_rfl) ?_)
            | ((with_reducible refine @id (wpList _ _ _ (Oper.mk _ (Op.load 65 (.tmp 34)) _ _ _ _ :: _) _ _) ?_); refine wpList_load_one (by kernel_rfl) 65 (.tmp 34) rfl (R1) 1 rfl 67 #[.slice a N c, .slice (some ⟨B, o, none⟩) M d] (0, 0) (HLt.out.get (.tail _ (.tail _ (.head _)))) (.slice (some ⟨B, o, none⟩) M d) rfl _ Try.underlying65 rfl (by kernel_rfl) ?_)
            | ((with_reducible refine @id (wpList _ _ _ (Oper.mk _ (Op.load 2 (.tmp 38)) _ _ _ _ :: _) _ _) ?_); refine wpList_load_one1 (by kernel_rfl) 2 (.tmp 38) rfl B (o + k * 3) rfl (.int .i64 ks) (HCk.out _ HLt.out.below) _ Try.underlying2 rfl ?_)
            | ((with_reducible refine @id (wpList _ _ _ (Oper.mk _ (Op.buildSlice _ _ _) _ _ _ _ :: _) _ _) ?_); refine wpList_lit0 hdL 3 rfl 65 rfl 112 j0 Try.underlying65 HY.out.1 ?_; intro wA G hg1 hown1 hb1; have HOA := Lib.hid hown1; have gG0 : w.heap.size ≤ G := (by rw [← hg1]; exact HLt.out.below.size); have g_R6 : R6 < G := (by rw [← hg1]; exact HLt.out.lt (.head _)); have g_R2 : R2 < G := (by rw [← hg1]; exact HLt.out.lt (.tail _ (.head _))); have g_R1 : R1 < G := (by rw [← hg1]; exact HLt.out.lt (.tail _ (.tail _ (.head _)))); have g_H5 : H5 ≤ G := (by rw [← hg1]; exact (HLt.out.hi (.head _)).2); have LA := Lib.hid (show Lg w wA [(R6, #[.slice a5 N c5, .slice b5 M d5], 67), (R2, #[.slice none 0 0, .slice none 0 0], 67), (R1, #[.slice a N c, .slice (some ⟨B, o, none⟩) M d], 67)] [(L5, H5, fun W => PkNew L5 H5 W a5 b5 r q)] from HLt.out.kept hb1); have HSzA := Lib.hid (show G ≤ wA.heap.size from (by rw [← hg1]; exact hb1.size)); clear hown1 hb1 hg1)
            | ((with_reducible refine @id (wpList _ _ _ (Oper.mk _ (Op.load 65 (.tmp 46)) _ _ _ _ :: _) _ _) ?_); refine wpList_load_one (by kernel_rfl) 65 (.tmp 46) rfl (R1) 1 rfl 67 #[.slice a N c, .slice (some ⟨B, o, none⟩) M d] (0, 0) (LA.out.get (.tail _ (.tail _ (.head _)))) (.slice (some ⟨B, o, none⟩) M d) rfl _ Try.underlying65 rfl (by kernel_rfl) ?_)
            | (at_builtin; (with_reducible refine @id (wpList _ _ _ (Oper.mk _ (Op.call (Call.mk _ #[(.tmp 45), (.tmp 49)] _)) _ _ _ _ :: _) _ _) ?_); refine wpList_append_rs hdL_len hdL_one rfl (.tmp 45) (.tmp 49) 65 rfl 112 j0 (.agg #[.int .i64 0, .int .i64 0, .int .i64 0]) 24 Try.underlying65 HY.out.1 HY.out.2.1 HY.out.2.2.1 HY.out.2.2.2 rfl (by decide) G (wA.heap.size) (.slice (some ⟨G, 0, none⟩) 0 0) (([] : List Hd)) rfl HOA.out _ _ (q.take k) (slice_len rfl HTk.out) ((HJ.out.kept LA.out.below).take k) (by have := HM.out; unfold maxLen; simp <;> omega) (by have := HM.out; simp <;> omega) (by have := (LA.out.below.size); have := HSzA.out; omega) ?_; intro vB wB hown2 ho2; have HOB := Lib.hid hown2; have LB := Lib.hid (show Lg w wB [(R6, #[.slice a5 N c5, .slice b5 M d5], 67), (R2, #[.slice none 0 0, .slice none 0 0], 67), (R1, #[.slice a N c, .slice (some ⟨B, o, none⟩) M d], 67)] [(L5, H5, fun W => PkNew L5 H5 W a5 b5 r q)] from LA.out.out ho2 gG0 (List.forall_mem_cons.2 ⟨Or.inl g_R6, (List.forall_mem_cons.2 ⟨Or.inl g_R2, (List.forall_mem_cons.2 ⟨Or.inl g_R1, (fun _ h => nomatch h)⟩)⟩)⟩) (List.forall_mem_cons.2 ⟨.inl g_H5, (fun _ h => nomatch h)⟩)); have HSzB := Lib.hid (Nat.le_trans HSzA.out ho2.size); clear hown2 ho2)
            | ((with_reducible refine @id (wpList _ _ _ (Oper.mk _ (Op.buildSlice _ _ _) _ _ _ _ :: _) _ _) ?_); refine wpList_lit1 hdL_len rfl 65 (.tmp 54) rfl 112 j0 Try.underlying65 HY.out.1 (.agg #[.int .i64 0, .int .i64 0, .int .i64 0]) HY.out.2.1 HY.out.2.2.1 ⟨src, n, 0⟩ (.agg #[.int .i64 src, .int .i64 n, .int .i64 0]) rfl rfl rfl (by decide) (by decide) ?_; intro wC g2 hg2 hinC hbC; have HIC := Lib.hid hinC; have LC := Lib.hid (show Lg w wC [(R6, #[.slice a5 N c5, .slice b5 M d5], 67), (R2, #[.slice none 0 0, .slice none 0 0], 67), (R1, #[.slice a N c, .slice (some ⟨B, o, none⟩) M d], 67)] [(L5, H5, fun W => PkNew L5 H5 W a5 b5 r q)] from LB.out.kept hbC); have HOC := Lib.hid (HOB.out.kept hbC); have HSzC := Lib.hid (Nat.le_trans HSzB.out hbC.size); clear hinC hbC)
            | (at_builtin; (with_reducible refine @id (wpList _ _ _ (Oper.mk _ (Op.call (Call.mk _ #[(.tmp 51), (.tmp 55)] _)) _ _ _ _ :: _) _ _) ?_); refine wpList_append_rs hdL_len hdL_one rfl (.tmp 51) (.tmp 55) 65 rfl 112 j0 (.agg #[.int .i64 0, .int .i64 0, .int .i64 0]) 24 Try.underlying65 HY.out.1 HY.out.2.1 HY.out.2.2.1 HY.out.2.2.2 rfl (by decide) G (wB.heap.size) (vB) (([] : List Hd) ++ q.take k) rfl HOC.out _ _ ([⟨src, n, 0⟩]) rfl HIC.out (by have := HM.out; unfold maxLen; simp <;> omega) (by have := HM.out; simp <;> omega) (by have := (LC.out.below.size); have := HSzC.out; omega) ?_; intro vD wD hown2 ho2; have HOD := Lib.hid hown2; have LD := Lib.hid (show Lg w wD [(R6, #[.slice a5 N c5, .slice b5 M d5], 67), (R2, #[.slice none 0 0, .slice none 0 0], 67), (R1, #[.slice a N c, .slice (some ⟨B, o, none⟩) M d], 67)] [(L5, H5, fun W => PkNew L5 H5 W a5 b5 r q)] from LC.out.out ho2 gG0 (List.forall_mem_cons.2 ⟨Or.inl g_R6, (List.forall_mem_cons.2 ⟨Or.inl g_R2, (List.forall_mem_cons.2 ⟨Or.inl g_R1, (fun _ h => nomatch h)⟩)⟩)⟩) (List.forall_mem_cons.2 ⟨.inl g_H5, (fun _ h => nomatch h)⟩)); have HSzD := Lib.hid (Nat.le_trans HSzC.out ho2.size); clear hown2 ho2)
            | ((with_reducible refine @id (wpList _ _ _ (Oper.mk _ (Op.load 65 (.tmp 58)) _ _ _ _ :: _) _ _) ?_); refine wpList_load_one (by kernel_rfl) 65 (.tmp 58) rfl (R1) 1 rfl 67 #[.slice a N c, .slice (some ⟨B, o, none⟩) M d] (0, 0) (LD.out.get (.tail _ (.tail _ (.head _)))) (.slice (some ⟨B, o, none⟩) M d) rfl _ Try.underlying65 rfl (by kernel_rfl) ?_)
            | ((with_reducible refine @id (wpList _ _ _ (Oper.mk _ (Op.load 65 (.tmp 63)) _ _ _ _ :: _) _ _) ?_); refine wpList_load_one (by kernel_rfl) 65 (.tmp 63) rfl (R1) 1 rfl 67 #[.slice a N c, .slice (some ⟨B, o, none⟩) M d] (0, 0) (LD.out.get (.tail _ (.tail _ (.head _)))) (.slice (some ⟨B, o, none⟩) M d) rfl _ Try.underlying65 rfl (by kernel_rfl) ?_)
            | ((with_reducible refine @id (wpList _ _ _ (Oper.mk _ (Op.load 2 (.tmp 67)) _ _ _ _ :: _) _ _) ?_); refine wpList_load_one1 (by kernel_rfl) 2 (.tmp 67) rfl B (o + k * 3) rfl (.int .i64 ks) (HCk.out _ LD.out.below) _ Try.underlying2 rfl ?_)
            | ((with_reducible refine @id (wpList _ _ _ (Oper.mk _ (Op.load 65 (.tmp 75)) _ _ _ _ :: _) _ _) ?_); refine wpList_load_one (by kernel_rfl) 65 (.tmp 75) rfl (R1) 1 rfl 67 #[.slice a N c, .slice (some ⟨B, o, none⟩) M d] (0, 0) (LD.out.get (.tail _ (.tail _ (.head _)))) (.slice (some ⟨B, o, none⟩) M d) rfl _ Try.underlying65 rfl (by kernel_rfl) ?_)
            | (at_builtin; (with_reducible refine @id (wpList _ _ _ (Oper.mk _ (Op.call (Call.mk _ #[(.tmp 74), (.tmp 78)] _)) _ _ _ _ :: _) _ _) ?_); refine wpList_append_rs hdL_len hdL_one rfl (.tmp 74) (.tmp 78) 65 rfl 112 j0 (.agg #[.int .i64 0, .int .i64 0, .int .i64 0]) 24 Try.underlying65 HY.out.1 HY.out.2.1 HY.out.2.2.1 HY.out.2.2.2 rfl (by decide) G (wD.heap.size) (vD) (([] : List Hd) ++ q.take k ++ [⟨src, n, 0⟩]) rfl HOD.out _ _ (q.drop e) (slice_len rfl HDe.out) ((HJ.out.kept LD.out.below).drop e) (by have := HM.out; unfold maxLen; simp <;> omega) (by have := HM.out; simp <;> omega) (by have := (LD.out.below.size); have := HSzD.out; omega) ?_; intro vE wE hown2 ho2; have HOE := Lib.hid hown2; have LE := Lib.hid (show Lg w wE [(R6, #[.slice a5 N c5, .slice b5 M d5], 67), (R2, #[.slice none 0 0, .slice none 0 0], 67), (R1, #[.slice a N c, .slice (some ⟨B, o, none⟩) M d], 67)] [(L5, H5, fun W => PkNew L5 H5 W a5 b5 r q)] from LD.out.out ho2 gG0 (List.forall_mem_cons.2 ⟨Or.inl g_R6, (List.forall_mem_cons.2 ⟨Or.inl g_R2, (List.forall_mem_cons.2 ⟨Or.inl g_R1, (fun _ h => nomatch h)⟩)⟩)⟩) (List.forall_mem_cons.2 ⟨.inl g_H5, (fun _ h => nomatch h)⟩)); have HSzE := Lib.hid (Nat.le_trans HSzD.out ho2.size); obtain ⟨aE, cE, rfl, hcE, hnE⟩ := HOE.out.new hdL_len; rw [show ([] : List Hd) ++ q.take k ++ [⟨src, n, 0⟩] ++ q.drop e = putH q src n from HPu.out] at hnE ⊢; have HNE := Lib.hid hnE; clear hown2 ho2 hcE hnE)
            | ((with_reducible refine @id (wpList _ _ _ (Oper.mk _ (Op.store 65 (.tmp 80) (.tmp 79)) _ _ _ _ :: _) _ _) ?_); refine wpList_put_at rfl 65 (.tmp 80) (.tmp 79) rfl rfl (R6) 1 rfl (.slice aE (putH q src n).length cE) rfl #[.slice aE (putH q src n).length cE] rfl 67 #[.slice a5 N c5, .slice b5 M d5] #[.slice a5 N c5, .slice aE (putH q src n).length cE] (LE.out.get (.head _)) (by kernel_rfl) (by kernel_rfl) (by kernel_rfl) (by kernel_rfl) ?_; intro wF gF oF; have HF7 := Lib.hid gF; have HF2 := Lib.hid ((oF.block R2 (LE.out.lt (.tail _ (.head _))) (by omega)).trans (LE.out.get (.tail _ (.head _)))); have HFO := Lib.hid oF; clear gF oF)
            | ((with_reducible refine @id (wpList _ _ _ (Oper.mk _ (Op.load 67 (.tmp 7)) _ _ _ _ :: _) _ _) ?_); refine wpList_load_at rfl 67 (.tmp 7) rfl (R6) 0 rfl 67 #[.slice a5 N c5, .slice aE (putH q src n).length cE] (0, 0) HF7.out [.slice a5 N c5, .slice aE (putH q src n).length cE] rfl _ Try.underlying67 rfl (by kernel_rfl) ?_)
            | ((with_reducible refine @id (wpList _ _ _ (Oper.mk _ (Op.store 67 (.tmp 6) (.tmp 81)) _ _ _ _ :: _) _ _) ?_); refine wpList_put_at rfl 67 (.tmp 6) (.tmp 81) rfl rfl (R2) 0 rfl (.agg #[.slice a5 N c5, .slice aE (putH q src n).length cE]) rfl #[.slice a5 N c5, .slice aE (putH q src n).length cE] rfl 67 #[.slice none 0 0, .slice none 0 0] #[.slice a5 N c5, .slice aE (putH q src n).length cE] HF2.out (by kernel_rfl) (by kernel_rfl) (by kernel_rfl) (by kernel_rfl) ?_; intro wH gH oH; have HH2 := Lib.hid gH; have HHO := Lib.hid oH; clear gH oH))
          all_goals
            obtain ⟨l1, h1, l2, h2, y1, y2, y3, k1, k2⟩ := LE.out.at (.head _)
            have n1 := LE.out.lo (.head _)
            have n2 := LE.out.ge (.tail _ (.head _))
            have n3 := LE.out.ge (.head _)
            exact bodyPost_ret (results_cell_row (p := 6) (ty := 67) (by kernel_rfl) _ _ (R2) 67 _ (0, 0) _ rfl HH2.out Try.underlying67 rfl (by kernel_rfl)) rfl (PkOut.mk HN.out rfl ⟨l1, h1, G, wE.heap.size, ⟨by omega, y1.2.1, Nat.le_trans y1.2.2 (Nat.le_trans g_H5 (Nat.le_trans HSzE.out (Nat.le_trans HFO.out.size HHO.out.size)))⟩, ⟨gG0, HSzE.out, Nat.le_trans HFO.out.size HHO.out.size⟩, .inl (Nat.le_trans y1.2.2 g_H5), (k1.out HFO.out (.inl (by omega))).out HHO.out (.inr (by omega)), (HNE.out.out HFO.out (.inr (by omega))).out HHO.out (.inr (by omega))⟩ (HHO.out.below (HFO.out.below LE.out.below (by omega) LE.out.below.size) (by omega) (Nat.le_trans LE.out.below.size HFO.out.size)))
      · have hqb : (ks == src) = false := by simpa using heq
        have HPu := Lib.hid (show ([] : List Hd) ++ q.take k ++ [⟨src, n, 0⟩] ++ q.drop k = putH q src n from by
          rw [putH_form HKc.out (show k = _ by rw [hdS_at hkl, HKs.out, if_neg (fun h => heq (Option.some.inj h))])]
          simp)
        have HDe := Lib.hid (show (q.drop k).length = M - k by rw [List.length_drop, HM.out])
        have hde : ¬ (d = k) := by omega
        clear hlt heq
        go_wp2_with (first
          | ((with_reducible refine @id (wpList _ _ _ (Oper.mk _ (Op.load 65 (.tmp 29)) _ _ _ _ :: _) _ _) ?_); refine wpList_load_one (by kernel_rfl) 65 (.tmp 29) rfl (R1) 1 rfl 67 #[.slice a N c, .slice (some ⟨B, o, none⟩) M d] (0, 0) (HLt.out.get (.tail _ (.tail _ (.head _)))) (.slice (some ⟨B, o, none⟩) M d) rfl _ Try.underlying65 rfl (by kernel_rfl) ?_)
          | ((with_reducible refine @id (wpList _ _ _ (Oper.mk _ (Op.load 65 (.tmp 34)) _ _ _ _ :: _) _ _) ?_); refine wpList_load_one (by kernel_rfl) 65 (.tmp 34) rfl (R1) 1 rfl 67 #[.slice a N c, .slice (some ⟨B, o, none⟩) M d] (0, 0) (HLt.out.get (.tail _ (.tail _ (.head _)))) (.slice (some ⟨B, o, none⟩) M d) rfl _ Try.underlying65 rfl (by kernel_rfl) ?_)
          | ((with_reducible refine @id (wpList _ _ _ (Oper.mk _ (Op.load 2 (.tmp 38)) _ _ _ _ :: _) _ _) ?_); refine wpList_load_one1 (by kernel_rfl) 2 (.tmp 38) rfl B (o + k * 3) rfl (.int .i64 ks) (HCk.out _ HLt.out.below) _ Try.underlying2 rfl ?_)
          | ((with_reducible refine @id (wpList _ _ _ (Oper.mk _ (Op.buildSlice _ _ _) _ _ _ _ :: _) _ _) ?_); refine wpList_lit0 hdL 3 rfl 65 rfl 112 j0 Try.underlying65 HY.out.1 ?_; intro wA G hg1 hown1 hb1; have HOA := Lib.hid hown1; have gG0 : w.heap.size ≤ G := (by rw [← hg1]; exact HLt.out.below.size); have g_R6 : R6 < G := (by rw [← hg1]; exact HLt.out.lt (.head _)); have g_R2 : R2 < G := (by rw [← hg1]; exact HLt.out.lt (.tail _ (.head _))); have g_R1 : R1 < G := (by rw [← hg1]; exact HLt.out.lt (.tail _ (.tail _ (.head _)))); have g_H5 : H5 ≤ G := (by rw [← hg1]; exact (HLt.out.hi (.head _)).2); have LA := Lib.hid (show Lg w wA [(R6, #[.slice a5 N c5, .slice b5 M d5], 67), (R2, #[.slice none 0 0, .slice none 0 0], 67), (R1, #[.slice a N c, .slice (some ⟨B, o, none⟩) M d], 67)] [(L5, H5, fun W => PkNew L5 H5 W a5 b5 r q)] from HLt.out.kept hb1); have HSzA := Lib.hid (show G ≤ wA.heap.size from (by rw [← hg1]; exact hb1.size)); clear hown1 hb1 hg1)
          | ((with_reducible refine @id (wpList _ _ _ (Oper.mk _ (Op.load 65 (.tmp 46)) _ _ _ _ :: _) _ _) ?_); refine wpList_load_one (by kernel_rfl) 65 (.tmp 46) rfl (R1) 1 rfl 67 #[.slice a N c, .slice (some ⟨B, o, none⟩) M d] (0, 0) (LA.out.get (.tail _ (.tail _ (.head _)))) (.slice (some ⟨B, o, none⟩) M d) rfl _ Try.underlying65 rfl (by kernel_rfl) ?_)
          | (at_builtin; (with_reducible refine @id (wpList _ _ _ (Oper.mk _ (Op.call (Call.mk _ #[(.tmp 45), (.tmp 49)] _)) _ _ _ _ :: _) _ _) ?_); refine wpList_append_rs hdL_len hdL_one rfl (.tmp 45) (.tmp 49) 65 rfl 112 j0 (.agg #[.int .i64 0, .int .i64 0, .int .i64 0]) 24 Try.underlying65 HY.out.1 HY.out.2.1 HY.out.2.2.1 HY.out.2.2.2 rfl (by decide) G (wA.heap.size) (.slice (some ⟨G, 0, none⟩) 0 0) (([] : List Hd)) rfl HOA.out _ _ (q.take k) (slice_len rfl HTk.out) ((HJ.out.kept LA.out.below).take k) (by have := HM.out; unfold maxLen; simp <;> omega) (by have := HM.out; simp <;> omega) (by have := (LA.out.below.size); have := HSzA.out; omega) ?_; intro vB wB hown2 ho2; have HOB := Lib.hid hown2; have LB := Lib.hid (show Lg w wB [(R6, #[.slice a5 N c5, .slice b5 M d5], 67), (R2, #[.slice none 0 0, .slice none 0 0], 67), (R1, #[.slice a N c, .slice (some ⟨B, o, none⟩) M d], 67)] [(L5, H5, fun W => PkNew L5 H5 W a5 b5 r q)] from LA.out.out ho2 gG0 (List.forall_mem_cons.2 ⟨Or.inl g_R6, (List.forall_mem_cons.2 ⟨Or.inl g_R2, (List.forall_mem_cons.2 ⟨Or.inl g_R1, (fun _ h => nomatch h)⟩)⟩)⟩) (List.forall_mem_cons.2 ⟨.inl g_H5, (fun _ h => nomatch h)⟩)); have HSzB := Lib.hid (Nat.le_trans HSzA.out ho2.size); clear hown2 ho2)
          | ((with_reducible refine @id (wpList _ _ _ (Oper.mk _ (Op.buildSlice _ _ _) _ _ _ _ :: _) _ _) ?_); refine wpList_lit1 hdL_len rfl 65 (.tmp 54) rfl 112 j0 Try.underlying65 HY.out.1 (.agg #[.int .i64 0, .int .i64 0, .int .i64 0]) HY.out.2.1 HY.out.2.2.1 ⟨src, n, 0⟩ (.agg #[.int .i64 src, .int .i64 n, .int .i64 0]) rfl rfl rfl (by decide) (by decide) ?_; intro wC g2 hg2 hinC hbC; have HIC := Lib.hid hinC; have LC := Lib.hid (show Lg w wC [(R6, #[.slice a5 N c5, .slice b5 M d5], 67), (R2, #[.slice none 0 0, .slice none 0 0], 67), (R1, #[.slice a N c, .slice (some ⟨B, o, none⟩) M d], 67)] [(L5, H5, fun W => PkNew L5 H5 W a5 b5 r q)] from LB.out.kept hbC); have HOC := Lib.hid (HOB.out.kept hbC); have HSzC := Lib.hid (Nat.le_trans HSzB.out hbC.size); clear hinC hbC)
          | (at_builtin; (with_reducible refine @id (wpList _ _ _ (Oper.mk _ (Op.call (Call.mk _ #[(.tmp 51), (.tmp 55)] _)) _ _ _ _ :: _) _ _) ?_); refine wpList_append_rs hdL_len hdL_one rfl (.tmp 51) (.tmp 55) 65 rfl 112 j0 (.agg #[.int .i64 0, .int .i64 0, .int .i64 0]) 24 Try.underlying65 HY.out.1 HY.out.2.1 HY.out.2.2.1 HY.out.2.2.2 rfl (by decide) G (wB.heap.size) (vB) (([] : List Hd) ++ q.take k) rfl HOC.out _ _ ([⟨src, n, 0⟩]) rfl HIC.out (by have := HM.out; unfold maxLen; simp <;> omega) (by have := HM.out; simp <;> omega) (by have := (LC.out.below.size); have := HSzC.out; omega) ?_; intro vD wD hown2 ho2; have HOD := Lib.hid hown2; have LD := Lib.hid (show Lg w wD [(R6, #[.slice a5 N c5, .slice b5 M d5], 67), (R2, #[.slice none 0 0, .slice none 0 0], 67), (R1, #[.slice a N c, .slice (some ⟨B, o, none⟩) M d], 67)] [(L5, H5, fun W => PkNew L5 H5 W a5 b5 r q)] from LC.out.out ho2 gG0 (List.forall_mem_cons.2 ⟨Or.inl g_R6, (List.forall_mem_cons.2 ⟨Or.inl g_R2, (List.forall_mem_cons.2 ⟨Or.inl g_R1, (fun _ h => nomatch h)⟩)⟩)⟩) (List.forall_mem_cons.2 ⟨.inl g_H5, (fun _ h => nomatch h)⟩)); have HSzD := Lib.hid (Nat.le_trans HSzC.out ho2.size); clear hown2 ho2)
          | ((with_reducible refine @id (wpList _ _ _ (Oper.mk _ (Op.load 65 (.tmp 58)) _ _ _ _ :: _) _ _) ?_); refine wpList_load_one (by kernel_rfl) 65 (.tmp 58) rfl (R1) 1 rfl 67 #[.slice a N c, .slice (some ⟨B, o, none⟩) M d] (0, 0) (LD.out.get (.tail _ (.tail _ (.head _)))) (.slice (some ⟨B, o, none⟩) M d) rfl _ Try.underlying65 rfl (by kernel_rfl) ?_)
          | ((with_reducible refine @id (wpList _ _ _ (Oper.mk _ (Op.load 65 (.tmp 63)) _ _ _ _ :: _) _ _) ?_); refine wpList_load_one (by kernel_rfl) 65 (.tmp 63) rfl (R1) 1 rfl 67 #[.slice a N c, .slice (some ⟨B, o, none⟩) M d] (0, 0) (LD.out.get (.tail _ (.tail _ (.head _)))) (.slice (some ⟨B, o, none⟩) M d) rfl _ Try.underlying65 rfl (by kernel_rfl) ?_)
          | ((with_reducible refine @id (wpList _ _ _ (Oper.mk _ (Op.load 2 (.tmp 67)) _ _ _ _ :: _) _ _) ?_); refine wpList_load_one1 (by kernel_rfl) 2 (.tmp 67) rfl B (o + k * 3) rfl (.int .i64 ks) (HCk.out _ LD.out.below) _ Try.underlying2 rfl ?_)
          | ((with_reducible refine @id (wpList _ _ _ (Oper.mk _ (Op.load 65 (.tmp 75)) _ _ _ _ :: _) _ _) ?_); refine wpList_load_one (by kernel_rfl) 65 (.tmp 75) rfl (R1) 1 rfl 67 #[.slice a N c, .slice (some ⟨B, o, none⟩) M d] (0, 0) (LD.out.get (.tail _ (.tail _ (.head _)))) (.slice (some ⟨B, o, none⟩) M d) rfl _ Try.underlying65 rfl (by kernel_rfl) ?_)
          | (at_builtin; (with_reducible refine @id (wpList _ _ _ (Oper.mk _ (Op.call (Call.mk _ #[(.tmp 74), (.tmp 78)] _)) _ _ _ _ :: _) _ _) ?_); refine wpList_append_rs hdL_len hdL_one rfl (.tmp 74) (.tmp 78) 65 rfl 112 j0 (.agg #[.int .i64 0, .int .i64 0, .int .i64 0]) 24 Try.underlying65 HY.out.1 HY.out.2.1 HY.out.2.2.1 HY.out.2.2.2 rfl (by decide) G (wD.heap.size) (vD) (([] : List Hd) ++ q.take k ++ [⟨src, n, 0⟩]) rfl HOD.out _ _ (q.drop k) (slice_len rfl HDe.out) ((HJ.out.kept LD.out.below).drop k) (by have := HM.out; unfold maxLen; simp <;> omega) (by have := HM.out; simp <;> omega) (by have := (LD.out.below.size); have := HSzD.out; omega) ?_; intro vE wE hown2 ho2; have HOE := Lib.hid hown2; have LE := Lib.hid (show Lg w wE [(R6, #[.slice a5 N c5, .slice b5 M d5], 67), (R2, #[.slice none 0 0, .slice none 0 0], 67), (R1, #[.slice a N c, .slice (some ⟨B, o, none⟩) M d], 67)] [(L5, H5, fun W => PkNew L5 H5 W a5 b5 r q)] from LD.out.out ho2 gG0 (List.forall_mem_cons.2 ⟨Or.inl g_R6, (List.forall_mem_cons.2 ⟨Or.inl g_R2, (List.forall_mem_cons.2 ⟨Or.inl g_R1, (fun _ h => nomatch h)⟩)⟩)⟩) (List.forall_mem_cons.2 ⟨.inl g_H5, (fun _ h => nomatch h)⟩)); have HSzE := Lib.hid (Nat.le_trans HSzD.out ho2.size); obtain ⟨aE, cE, rfl, hcE, hnE⟩ := HOE.out.new hdL_len; rw [show ([] : List Hd) ++ q.take k ++ [⟨src, n, 0⟩] ++ q.drop k = putH q src n from HPu.out] at hnE ⊢; have HNE := Lib.hid hnE; clear hown2 ho2 hcE hnE)
          | ((with_reducible refine @id (wpList _ _ _ (Oper.mk _ (Op.store 65 (.tmp 80) (.tmp 79)) _ _ _ _ :: _) _ _) ?_); refine wpList_put_at rfl 65 (.tmp 80) (.tmp 79) rfl rfl (R6) 1 rfl (.slice aE (putH q src n).length cE) rfl #[.slice aE (putH q src n).length cE] rfl 67 #[.slice a5 N c5, .slice b5 M d5] #[.slice a5 N c5, .slice aE (putH q src n).length cE] (LE.out.get (.head _)) (by kernel_rfl) (by kernel_rfl) (by kernel_rfl) (by kernel_rfl) ?_; intro wF gF oF; have HF7 := Lib.hid gF; have HF2 := Lib.hid ((oF.block R2 (LE.out.lt (.tail _ (.head _))) (by omega)).trans (LE.out.get (.tail _ (.head _)))); have HFO := Lib.hid oF; clear gF oF)
          | ((with_reducible refine @id (wpList _ _ _ (Oper.mk _ (Op.load 67 (.tmp 7)) _ _ _ _ :: _) _ _) ?_); refine wpList_load_at rfl 67 (.tmp 7) rfl (R6) 0 rfl 67 #[.slice a5 N c5, .slice aE (putH q src n).length cE] (0, 0) HF7.out [.slice a5 N c5, .slice aE (putH q src n).length cE] rfl _ Try.underlying67 rfl (by kernel_rfl) ?_)
          | ((with_reducible refine @id (wpList _ _ _ (Oper.mk _ (Op.store 67 (.tmp 6) (.tmp 81)) _ _ _ _ :: _) _ _) ?_); refine wpList_put_at rfl 67 (.tmp 6) (.tmp 81) rfl rfl (R2) 0 rfl (.agg #[.slice a5 N c5, .slice aE (putH q src n).length cE]) rfl #[.slice a5 N c5, .slice aE (putH q src n).length cE] rfl 67 #[.slice none 0 0, .slice none 0 0] #[.slice a5 N c5, .slice aE (putH q src n).length cE] HF2.out (by kernel_rfl) (by kernel_rfl) (by kernel_rfl) (by kernel_rfl) ?_; intro wH gH oH; have HH2 := Lib.hid gH; have HHO := Lib.hid oH; clear gH oH))
        all_goals
          obtain ⟨l1, h1, l2, h2, y1, y2, y3, k1, k2⟩ := LE.out.at (.head _)
          have n1 := LE.out.lo (.head _)
          have n2 := LE.out.ge (.tail _ (.head _))
          have n3 := LE.out.ge (.head _)
          exact bodyPost_ret (results_cell_row (p := 6) (ty := 67) (by kernel_rfl) _ _ (R2) 67 _ (0, 0) _ rfl HH2.out Try.underlying67 rfl (by kernel_rfl)) rfl (PkOut.mk HN.out rfl ⟨l1, h1, G, wE.heap.size, ⟨by omega, y1.2.1, Nat.le_trans y1.2.2 (Nat.le_trans g_H5 (Nat.le_trans HSzE.out (Nat.le_trans HFO.out.size HHO.out.size)))⟩, ⟨gG0, HSzE.out, Nat.le_trans HFO.out.size HHO.out.size⟩, .inl (Nat.le_trans y1.2.2 g_H5), (k1.out HFO.out (.inl (by omega))).out HHO.out (.inr (by omega)), (HNE.out.out HFO.out (.inr (by omega))).out HHO.out (.inr (by omega))⟩ (HHO.out.below (HFO.out.below LE.out.below (by omega) LE.out.below.size) (by omega) (Nat.le_trans LE.out.below.size HFO.out.size)))
    · have HKM := Lib.hid (show k = M by omega)
      have hcf : decide (k < M) = false := decide_eq_false hkn
      have hi1 : (0 : Int) ≤ (k : Int) := by omega
      have hi3 : (k : Int) ≤ (M : Int) := by omega
      have HKc := Lib.hid (cntS_of HGa.out (by have := HM.out; omega) HA.out (fun h => absurd h (by have := HM.out; omega)))
      have HPu := Lib.hid (show ([] : List Hd) ++ q.take k ++ [⟨src, n, 0⟩] ++ q.drop k = putH q src n from by
        rw [putH_form HKc.out (show k = _ by rw [List.getElem?_eq_none (by rw [hdS_length]; have := HM.out; omega), if_neg (by simp)])]
        simp)
      have HDe := Lib.hid (show (q.drop k).length = M - k by rw [List.length_drop, HM.out])
      have HDn := Lib.hid (show q.drop k = [] from List.drop_eq_nil_of_le (by have := HM.out; omega))
      clear hkn
      go_wp2_with (first
        | ((with_reducible refine @id (wpList _ _ _ (Oper.mk _ (Op.load 65 (.tmp 29)) _ _ _ _ :: _) _ _) ?_); refine wpList_load_one (by kernel_rfl) 65 (.tmp 29) rfl (R1) 1 rfl 67 #[.slice a N c, .slice (some ⟨B, o, none⟩) M d] (0, 0) (HLt.out.get (.tail _ (.tail _ (.head _)))) (.slice (some ⟨B, o, none⟩) M d) rfl _ Try.underlying65 rfl (by kernel_rfl) ?_)
        | ((with_reducible refine @id (wpList _ _ _ (Oper.mk _ (Op.buildSlice _ _ _) _ _ _ _ :: _) _ _) ?_); refine wpList_lit0 hdL 3 rfl 65 rfl 112 j0 Try.underlying65 HY.out.1 ?_; intro wA G hg1 hown1 hb1; have HOA := Lib.hid hown1; have gG0 : w.heap.size ≤ G := (by rw [← hg1]; exact HLt.out.below.size); have g_R6 : R6 < G := (by rw [← hg1]; exact HLt.out.lt (.head _)); have g_R2 : R2 < G := (by rw [← hg1]; exact HLt.out.lt (.tail _ (.head _))); have g_R1 : R1 < G := (by rw [← hg1]; exact HLt.out.lt (.tail _ (.tail _ (.head _)))); have g_H5 : H5 ≤ G := (by rw [← hg1]; exact (HLt.out.hi (.head _)).2); have LA := Lib.hid (show Lg w wA [(R6, #[.slice a5 N c5, .slice b5 M d5], 67), (R2, #[.slice none 0 0, .slice none 0 0], 67), (R1, #[.slice a N c, .slice (some ⟨B, o, none⟩) M d], 67)] [(L5, H5, fun W => PkNew L5 H5 W a5 b5 r q)] from HLt.out.kept hb1); have HSzA := Lib.hid (show G ≤ wA.heap.size from (by rw [← hg1]; exact hb1.size)); clear hown1 hb1 hg1)
        | ((with_reducible refine @id (wpList _ _ _ (Oper.mk _ (Op.load 65 (.tmp 46)) _ _ _ _ :: _) _ _) ?_); refine wpList_load_one (by kernel_rfl) 65 (.tmp 46) rfl (R1) 1 rfl 67 #[.slice a N c, .slice (some ⟨B, o, none⟩) M d] (0, 0) (LA.out.get (.tail _ (.tail _ (.head _)))) (.slice (some ⟨B, o, none⟩) M d) rfl _ Try.underlying65 rfl (by kernel_rfl) ?_)
        | (at_builtin; (with_reducible refine @id (wpList _ _ _ (Oper.mk _ (Op.call (Call.mk _ #[(.tmp 45), (.tmp 49)] _)) _ _ _ _ :: _) _ _) ?_); refine wpList_append_rs hdL_len hdL_one rfl (.tmp 45) (.tmp 49) 65 rfl 112 j0 (.agg #[.int .i64 0, .int .i64 0, .int .i64 0]) 24 Try.underlying65 HY.out.1 HY.out.2.1 HY.out.2.2.1 HY.out.2.2.2 rfl (by decide) G (wA.heap.size) (.slice (some ⟨G, 0, none⟩) 0 0) (([] : List Hd)) rfl HOA.out _ _ (q.take k) (slice_len rfl HTk.out) ((HJ.out.kept LA.out.below).take k) (by have := HM.out; unfold maxLen; simp <;> omega) (by have := HM.out; simp <;> omega) (by have := (LA.out.below.size); have := HSzA.out; omega) ?_; intro vB wB hown2 ho2; have HOB := Lib.hid hown2; have LB := Lib.hid (show Lg w wB [(R6, #[.slice a5 N c5, .slice b5 M d5], 67), (R2, #[.slice none 0 0, .slice none 0 0], 67), (R1, #[.slice a N c, .slice (some ⟨B, o, none⟩) M d], 67)] [(L5, H5, fun W => PkNew L5 H5 W a5 b5 r q)] from LA.out.out ho2 gG0 (List.forall_mem_cons.2 ⟨Or.inl g_R6, (List.forall_mem_cons.2 ⟨Or.inl g_R2, (List.forall_mem_cons.2 ⟨Or.inl g_R1, (fun _ h => nomatch h)⟩)⟩)⟩) (List.forall_mem_cons.2 ⟨.inl g_H5, (fun _ h => nomatch h)⟩)); have HSzB := Lib.hid (Nat.le_trans HSzA.out ho2.size); clear hown2 ho2)
        | ((with_reducible refine @id (wpList _ _ _ (Oper.mk _ (Op.buildSlice _ _ _) _ _ _ _ :: _) _ _) ?_); refine wpList_lit1 hdL_len rfl 65 (.tmp 54) rfl 112 j0 Try.underlying65 HY.out.1 (.agg #[.int .i64 0, .int .i64 0, .int .i64 0]) HY.out.2.1 HY.out.2.2.1 ⟨src, n, 0⟩ (.agg #[.int .i64 src, .int .i64 n, .int .i64 0]) rfl rfl rfl (by decide) (by decide) ?_; intro wC g2 hg2 hinC hbC; have HIC := Lib.hid hinC; have LC := Lib.hid (show Lg w wC [(R6, #[.slice a5 N c5, .slice b5 M d5], 67), (R2, #[.slice none 0 0, .slice none 0 0], 67), (R1, #[.slice a N c, .slice (some ⟨B, o, none⟩) M d], 67)] [(L5, H5, fun W => PkNew L5 H5 W a5 b5 r q)] from LB.out.kept hbC); have HOC := Lib.hid (HOB.out.kept hbC); have HSzC := Lib.hid (Nat.le_trans HSzB.out hbC.size); clear hinC hbC)
        | (at_builtin; (with_reducible refine @id (wpList _ _ _ (Oper.mk _ (Op.call (Call.mk _ #[(.tmp 51), (.tmp 55)] _)) _ _ _ _ :: _) _ _) ?_); refine wpList_append_rs hdL_len hdL_one rfl (.tmp 51) (.tmp 55) 65 rfl 112 j0 (.agg #[.int .i64 0, .int .i64 0, .int .i64 0]) 24 Try.underlying65 HY.out.1 HY.out.2.1 HY.out.2.2.1 HY.out.2.2.2 rfl (by decide) G (wB.heap.size) (vB) (([] : List Hd) ++ q.take k) rfl HOC.out _ _ ([⟨src, n, 0⟩]) rfl HIC.out (by have := HM.out; unfold maxLen; simp <;> omega) (by have := HM.out; simp <;> omega) (by have := (LC.out.below.size); have := HSzC.out; omega) ?_; intro vD wD hown2 ho2; have HOD := Lib.hid hown2; have LD := Lib.hid (show Lg w wD [(R6, #[.slice a5 N c5, .slice b5 M d5], 67), (R2, #[.slice none 0 0, .slice none 0 0], 67), (R1, #[.slice a N c, .slice (some ⟨B, o, none⟩) M d], 67)] [(L5, H5, fun W => PkNew L5 H5 W a5 b5 r q)] from LC.out.out ho2 gG0 (List.forall_mem_cons.2 ⟨Or.inl g_R6, (List.forall_mem_cons.2 ⟨Or.inl g_R2, (List.forall_mem_cons.2 ⟨Or.inl g_R1, (fun _ h => nomatch h)⟩)⟩)⟩) (List.forall_mem_cons.2 ⟨.inl g_H5, (fun _ h => nomatch h)⟩)); have HSzD := Lib.hid (Nat.le_trans HSzC.out ho2.size); clear hown2 ho2)
        | ((with_reducible refine @id (wpList _ _ _ (Oper.mk _ (Op.load 65 (.tmp 58)) _ _ _ _ :: _) _ _) ?_); refine wpList_load_one (by kernel_rfl) 65 (.tmp 58) rfl (R1) 1 rfl 67 #[.slice a N c, .slice (some ⟨B, o, none⟩) M d] (0, 0) (LD.out.get (.tail _ (.tail _ (.head _)))) (.slice (some ⟨B, o, none⟩) M d) rfl _ Try.underlying65 rfl (by kernel_rfl) ?_)
        | ((with_reducible refine @id (wpList _ _ _ (Oper.mk _ (Op.load 65 (.tmp 75)) _ _ _ _ :: _) _ _) ?_); refine wpList_load_one (by kernel_rfl) 65 (.tmp 75) rfl (R1) 1 rfl 67 #[.slice a N c, .slice (some ⟨B, o, none⟩) M d] (0, 0) (LD.out.get (.tail _ (.tail _ (.head _)))) (.slice (some ⟨B, o, none⟩) M d) rfl _ Try.underlying65 rfl (by kernel_rfl) ?_)
        | (at_builtin; (with_reducible refine @id (wpList _ _ _ (Oper.mk _ (Op.call (Call.mk _ #[(.tmp 74), (.tmp 78)] _)) _ _ _ _ :: _) _ _) ?_); refine wpList_append_rs hdL_len hdL_one rfl (.tmp 74) (.tmp 78) 65 rfl 112 j0 (.agg #[.int .i64 0, .int .i64 0, .int .i64 0]) 24 Try.underlying65 HY.out.1 HY.out.2.1 HY.out.2.2.1 HY.out.2.2.2 rfl (by decide) G (wD.heap.size) (vD) (([] : List Hd) ++ q.take k ++ [⟨src, n, 0⟩]) rfl HOD.out _ _ (q.drop k) (slice_len rfl HDe.out) (.inl HDn.out) (by have := HM.out; unfold maxLen; simp <;> omega) (by have := HM.out; simp <;> omega) (by have := (LD.out.below.size); have := HSzD.out; omega) ?_; intro vE wE hown2 ho2; have HOE := Lib.hid hown2; have LE := Lib.hid (show Lg w wE [(R6, #[.slice a5 N c5, .slice b5 M d5], 67), (R2, #[.slice none 0 0, .slice none 0 0], 67), (R1, #[.slice a N c, .slice (some ⟨B, o, none⟩) M d], 67)] [(L5, H5, fun W => PkNew L5 H5 W a5 b5 r q)] from LD.out.out ho2 gG0 (List.forall_mem_cons.2 ⟨Or.inl g_R6, (List.forall_mem_cons.2 ⟨Or.inl g_R2, (List.forall_mem_cons.2 ⟨Or.inl g_R1, (fun _ h => nomatch h)⟩)⟩)⟩) (List.forall_mem_cons.2 ⟨.inl g_H5, (fun _ h => nomatch h)⟩)); have HSzE := Lib.hid (Nat.le_trans HSzD.out ho2.size); obtain ⟨aE, cE, rfl, hcE, hnE⟩ := HOE.out.new hdL_len; rw [show ([] : List Hd) ++ q.take k ++ [⟨src, n, 0⟩] ++ q.drop k = putH q src n from HPu.out] at hnE ⊢; have HNE := Lib.hid hnE; clear hown2 ho2 hcE hnE)
        | ((with_reducible refine @id (wpList _ _ _ (Oper.mk _ (Op.store 65 (.tmp 80) (.tmp 79)) _ _ _ _ :: _) _ _) ?_); refine wpList_put_at rfl 65 (.tmp 80) (.tmp 79) rfl rfl (R6) 1 rfl (.slice aE (putH q src n).length cE) rfl #[.slice aE (putH q src n).length cE] rfl 67 #[.slice a5 N c5, .slice b5 M d5] #[.slice a5 N c5, .slice aE (putH q src n).length cE] (LE.out.get (.head _)) (by kernel_rfl) (by kernel_rfl) (by kernel_rfl) (by kernel_rfl) ?_; intro wF gF oF; have HF7 := Lib.hid gF; have HF2 := Lib.hid ((oF.block R2 (LE.out.lt (.tail _ (.head _))) (by omega)).trans (LE.out.get (.tail _ (.head _)))); have HFO := Lib.hid oF; clear gF oF)
        | ((with_reducible refine @id (wpList _ _ _ (Oper.mk _ (Op.load 67 (.tmp 7)) _ _ _ _ :: _) _ _) ?_); refine wpList_load_at rfl 67 (.tmp 7) rfl (R6) 0 rfl 67 #[.slice a5 N c5, .slice aE (putH q src n).length cE] (0, 0) HF7.out [.slice a5 N c5, .slice aE (putH q src n).length cE] rfl _ Try.underlying67 rfl (by kernel_rfl) ?_)
        | ((with_reducible refine @id (wpList _ _ _ (Oper.mk _ (Op.store 67 (.tmp 6) (.tmp 81)) _ _ _ _ :: _) _ _) ?_); refine wpList_put_at rfl 67 (.tmp 6) (.tmp 81) rfl rfl (R2) 0 rfl (.agg #[.slice a5 N c5, .slice aE (putH q src n).length cE]) rfl #[.slice a5 N c5, .slice aE (putH q src n).length cE] rfl 67 #[.slice none 0 0, .slice none 0 0] #[.slice a5 N c5, .slice aE (putH q src n).length cE] HF2.out (by kernel_rfl) (by kernel_rfl) (by kernel_rfl) (by kernel_rfl) ?_; intro wH gH oH; have HH2 := Lib.hid gH; have HHO := Lib.hid oH; clear gH oH))
      all_goals
        obtain ⟨l1, h1, l2, h2, y1, y2, y3, k1, k2⟩ := LE.out.at (.head _)
        have n1 := LE.out.lo (.head _)
        have n2 := LE.out.ge (.tail _ (.head _))
        have n3 := LE.out.ge (.head _)
        exact bodyPost_ret (results_cell_row (p := 6) (ty := 67) (by kernel_rfl) _ _ (R2) 67 _ (0, 0) _ rfl HH2.out Try.underlying67 rfl (by kernel_rfl)) rfl (PkOut.mk HN.out rfl ⟨l1, h1, G, wE.heap.size, ⟨by omega, y1.2.1, Nat.le_trans y1.2.2 (Nat.le_trans g_H5 (Nat.le_trans HSzE.out (Nat.le_trans HFO.out.size HHO.out.size)))⟩, ⟨gG0, HSzE.out, Nat.le_trans HFO.out.size HHO.out.size⟩, .inl (Nat.le_trans y1.2.2 g_H5), (k1.out HFO.out (.inl (by omega))).out HHO.out (.inr (by omega)), (HNE.out.out HFO.out (.inr (by omega))).out HHO.out (.inr (by omega))⟩ (HHO.out.below (HFO.out.below LE.out.below (by omega) LE.out.below.size) (by omega) (Nat.le_trans LE.out.below.size HFO.out.size)))
theorem specPickHear_any (a b : Option Addr) (c d : Nat) (r : List Int) (q : List Hd) (src n : Int) (w : World) (h1 : NumsIn w a r) (h2 : RsIn hdL 3 w b q) (hr : r.length ≤ 1048576) (hq : q.length ≤ 1048576) (hdc : q.length ≤ d) :
    Calls Try.prog 46 #[.agg #[.slice a r.length c, .slice b q.length d], .int .i64 src, .int .i64 n] w (PkOut r (hearH r q src n) w) := by
  rcases h2 with h | ⟨B, o, rfl, k⟩
  · exact specPickHear_nil a b c d r q src n w h1 (.inl h) hr hq hdc h
  · exact specPickHear_some a _ c d r q src n w h1 (.inr ⟨B, o, rfl, k⟩) hr hq hdc ⟨B, o, rfl⟩
end Go.Proofs.Ytdhmcepnmbchkaa
