/- Pickers: their size, a copy, alike, marked, read again by the laws' own functions; a Picker that came in. Nothing that was there is written, but what is marked. -/
import Derived.Test.YtdhmcepnmbchkaaHds
import Derived.Test.YtdhmcepnmbchkaaOpenHds
import Derived.Test.YtdhmcepnmbchkaaClaimTo
namespace Go.Proofs.Ytdhmcepnmbchkaa
open Go.RowKit Go.ChangeShapes Go.WideShapes Go.ChangeAt Go.Joins
set_option linter.unusedVariables false

/-- A Picker's two lists, in memory of a call's own, each elsewhere than the other. -/
def PkNew (lo hi : Nat) (W : World) (a b : Option Addr) (r : List Int) (h : List Hd) : Prop :=
  ∃ l1 h1 l2 h2, (lo ≤ l1 ∧ l1 ≤ h1 ∧ h1 ≤ hi) ∧ (lo ≤ l2 ∧ l2 ≤ h2 ∧ h2 ≤ hi) ∧ (h1 ≤ l2 ∨ h2 ≤ l1) ∧ NumsNew l1 h1 W a r ∧ RsNew hdL 3 112 l2 h2 W b h
section
variable {lo hi lo' hi' mid : Nat} {w w' : World} {a b : Option Addr} {r : List Int} {h : List Hd}
theorem PkNew.two (h1 : lo ≤ mid) (h2 : mid ≤ hi) (k1 : NumsNew lo mid w a r) (k2 : RsNew hdL 3 112 mid hi w b h) : PkNew lo hi w a b r h :=
  ⟨lo, mid, mid, hi, ⟨Nat.le_refl _, h1, h2⟩, ⟨h1, h2, Nat.le_refl _⟩, .inl (Nat.le_refl _), k1, k2⟩
theorem PkNew.solid (k : PkNew lo hi w a b r h) : Solid lo hi (fun W => PkNew lo hi W a b r h) w := by
  obtain ⟨l1, h1, l2, h2, q1, q2, q3, k1, k2⟩ := k
  intro W' hs hk
  exact ⟨l1, h1, l2, h2, q1, q2, q3, k1.solid W' hs (fun k a b => hk k (by omega) (by omega)), k2.solid W' hs (fun k a b => hk k (by omega) (by omega))⟩
theorem PkNew.kept (k : PkNew lo hi w a b r h) (hb : Below w.heap.size w w') : PkNew lo hi w' a b r h := by
  obtain ⟨l1, h1, l2, h2, q1, q2, q3, k1, k2⟩ := k
  exact ⟨l1, h1, l2, h2, q1, q2, q3, k1.kept hb, k2.kept hb⟩
theorem PkNew.wide (k : PkNew lo hi w a b r h) (g1 : lo' ≤ lo) (g2 : hi ≤ hi') : PkNew lo' hi' w a b r h := by
  obtain ⟨l1, h1, l2, h2, q1, q2, q3, k1, k2⟩ := k
  exact ⟨l1, h1, l2, h2, by omega, by omega, q3, k1, k2⟩
theorem PkNew.nums (k : PkNew lo hi w a b r h) : NumsIn w a r := by
  obtain ⟨l1, h1, l2, h2, q1, q2, q3, k1, k2⟩ := k
  exact k1.nums
theorem PkNew.ins (k : PkNew lo hi w a b r h) : RsIn hdL 3 w b h := by
  obtain ⟨l1, h1, l2, h2, q1, q2, q3, k1, k2⟩ := k
  exact k2.ins
end
theorem Out.span {lo hi lo2 hi2 : Nat} {w w2 : World} (h : Out lo hi w w2) (h1 : lo2 ≤ lo) (h2 : hi ≤ hi2) : Out lo2 hi2 w w2 := ⟨h.os, h.tape, h.output, h.size, fun k hk h3 => h.block k hk (by omega)⟩
/-- The value is a Picker. -/
def IsPk (w : World) (v : Value) : Prop := ∃ (a : Option Addr) (c : Nat) (r : List Int) (b : Option Addr) (d : Nat) (h : List Hd), v = .agg #[.slice a r.length c, .slice b h.length d] ∧ NumsIn w a r ∧ RsIn hdL 3 w b h ∧ (∀ x ∈ h, HdOk x) ∧ r.length ≤ maxLen ∧ h.length ≤ maxLen
section
variable {H : Type} {enc : TypeId × Value → H} {w : World} {base : Nat} {spare : Nat → Bool} {held : Bool} {b0 : Nat} {r : Reach} {v : Value} {d : DataW H} {ps : List MemPlace}
theorem cells_Pk : Try.prog.cellsOf 62 = 2 := by kernel_rfl
theorem cells_PkN : Try.prog.cellsOf 25 = 1 := by kernel_rfl
theorem cells_PkH : Try.prog.cellsOf 60 = 1 := by kernel_rfl
theorem list_2 {α : Type} {l : List α} (h : l.length = 2) : ∃ x0 x1, l = [x0, x1] := by
  match l, h with
  | [x0, x1], _ => exact ⟨x0, x1, rfl⟩
set_option maxRecDepth 100000 in
theorem open_Pk (hv : Value.okWide Try.prog w r b0 62 v) (h : DataW.Trod enc Try.prog w base spare held 62 v d ps) : IsPk w v := by
  obtain ⟨cs, rfl, hsz⟩ := okWide_struct Try.underlying62 hv
  obtain ⟨ls⟩ := cs
  obtain ⟨c0, c1, rfl⟩ := list_2 ((by simpa using hsz : ls.length = _).trans cells_Pk)
  obtain ⟨fuel, hf⟩ := h
  obtain ⟨xs, n, _, _, _, hlen, hall⟩ := DataW.trod_struct Try.underlying62 hf
  obtain ⟨y0, y1, rfl⟩ := list_2 (by simpa using hlen)
  have h0 := hall 0 _ rfl
  have h1 := hall 1 _ rfl
  clear hall hf hlen
  simp [Value.cells, cells_PkN, cells_PkH] at h0 h1
  obtain ⟨a, cap, l, e0, k1, k2, k3⟩ := nums_of_trod h0
  obtain ⟨b, cap', m, e1, q1, q2, q3⟩ := Hds_of_trod h1
  simp at e0 e1
  subst e0 e1
  exact ⟨a, cap, l, b, cap', m, rfl, k1, q1, q2, k3, q3⟩
end
theorem szN_at (a : Option Addr) (cap n : Nat) (m : Int) (w : World) (hn : n ≤ maxLen) (h0 : 0 ≤ m) (h1 : m ≤ 1048576) :
    Calls Try.prog 88 #[.slice a n cap, .int .i64 m] w fun e w' => e = .returned (.int .i64 (if m < n then -1 else m - n)) ∧ Below w.heap.size w w' := by
  unfold maxLen at hn
  have hw : IntKind.i64.wrap (m - (n : Int)) = m - n := IntWalk.i64_in _ (by omega)
  by_cases hbig : m < (n : Int)
  · have hd : decide (m - (n : Int) < 0) = true := decide_eq_true (by omega)
    rw [if_pos hbig]
    clear hbig
    go_enter Try.func88, Try.ntmps88
    go_wp2_with fail
    go_ret
    exact ⟨rfl, Below.refl _ _⟩
  · have hd : decide (m - (n : Int) < 0) = false := decide_eq_false (by omega)
    rw [if_neg hbig]
    clear hbig
    go_enter Try.func88, Try.ntmps88
    go_wp2_with fail
    go_ret
    exact ⟨rfl, Below.refl _ _⟩
theorem szH_at (a : Option Addr) (cap n : Nat) (m : Int) (w : World) (hn : n ≤ maxLen) (h0 : 0 ≤ m) (h1 : m ≤ 1048576) :
    Calls Try.prog 89 #[.slice a n cap, .int .i64 m] w fun e w' => e = .returned (.int .i64 (if m < n then -1 else m - n)) ∧ Below w.heap.size w w' := by
  unfold maxLen at hn
  have hw : IntKind.i64.wrap (m - (n : Int)) = m - n := IntWalk.i64_in _ (by omega)
  by_cases hbig : m < (n : Int)
  · have hd : decide (m - (n : Int) < 0) = true := decide_eq_true (by omega)
    rw [if_pos hbig]
    clear hbig
    go_enter Try.func89, Try.ntmps89
    go_wp2_with fail
    go_ret
    exact ⟨rfl, Below.refl _ _⟩
  · have hd : decide (m - (n : Int) < 0) = false := decide_eq_false (by omega)
    rw [if_neg hbig]
    clear hbig
    go_enter Try.func89, Try.ntmps89
    go_wp2_with fail
    go_ret
    exact ⟨rfl, Below.refl _ _⟩
set_option maxRecDepth 100000 in
set_option maxHeartbeats 4000000 in
theorem szPicker_any (a b : Option Addr) (c d N M : Nat) (w : World) (hn : N ≤ maxLen) (hm : M ≤ maxLen) :
    Calls Try.prog 41 #[.agg #[.slice a N c, .slice b M d], .int .i64 1048576] w fun e w' => ∃ m : Int, e = .returned (.int .i64 m) ∧ (0 ≤ m → N ≤ 1048576 ∧ M ≤ 1048576) ∧ Below w.heap.size w w' := by
  have H1 := fun W => Lib.hid (szN_at a c N 1048576 W hn (by omega) (by omega))
  have H2 := fun W (q : (N : Int) ≤ 1048576) => Lib.hid (szH_at b d M (1048576 - N) W hm (by omega) (by omega))
  clear hn hm
  go_enter Try.func41, Try.ntmps41
  go_wp2_with (first
    | (refine wpList_box_h rfl 62 (.tmp 0) rfl #[.slice a N c, .slice b M d] rfl ?_; intro w1 R1 e1 g1 b1; have HL1 := Lib.hid (show Lg w w1 [(R1, #[.slice a N c, .slice b M d], 62)] [] from (Lg.first w).box e1 g1 b1); clear g1 b1 e1)
    | (refine wpList_load_one rfl 25 (.tmp 5) rfl (R1) 0 rfl 62 #[.slice a N c, .slice b M d] (0, 0) (HL1.out.get (.head _)) (.slice a N c) rfl _ Try.underlying25 rfl (by kernel_rfl) ?_))
  refine (H1 _).out.mono ?_
  rintro e w2 ⟨rfl, h2⟩
  by_cases hN : (1048576 : Int) < N
  · rw [if_pos hN]
    go_wp2_with fail
    go_ret
    exact ⟨-1, rfl, fun q => absurd q (by omega), HL1.out.below.trans (h2.mono HL1.out.below.size)⟩
  rw [if_neg hN]
  have HL2 := Lib.hid (show Lg w w2 [(R1, #[.slice a N c, .slice b M d], 62)] [] from HL1.out.kept h2)
  have hd : decide ((1048576 : Int) - N < 0) = false := decide_eq_false (by omega)
  have H3 := fun W => Lib.hid (H2 W (by omega)).out
  clear H1 H2 h2
  go_wp2_with (first
    | (refine wpList_load_one rfl 60 (.tmp 11) rfl (R1) 1 rfl 62 #[.slice a N c, .slice b M d] (0, 0) (HL2.out.get (.head _)) (.slice b M d) rfl _ Try.underlying60 rfl (by kernel_rfl) ?_))
  refine (H3 _).out.mono ?_
  rintro e w3 ⟨rfl, h3⟩
  by_cases hM : (1048576 : Int) - N < M
  · rw [if_pos hM]
    go_wp2_with fail
    go_ret
    exact ⟨-1, rfl, fun q => absurd q (by omega), HL2.out.below.trans (h3.mono HL2.out.below.size)⟩
  rw [if_neg hM]
  have hd2 : decide ((1048576 : Int) - N - M < 0) = false := decide_eq_false (by omega)
  go_wp2_with fail
  go_ret
  exact ⟨_, rfl, fun q => by omega, HL2.out.below.trans (h3.mono HL2.out.below.size)⟩
set_option maxRecDepth 100000 in
set_option maxHeartbeats 4000000 in
theorem toPicker_new (a b : Option Addr) (c d : Nat) (r : List Int) (q : List Hd) (w : World) (h1 : NumsIn w a r) (h2 : RsIn hdL 3 w b q) (hr : r.length ≤ 1048576) (hh : q.length ≤ 1048576) :
    Calls Try.prog 43 #[.agg #[.slice a r.length c, .slice b q.length d]] w fun e w' => ∃ a' b', e = .returned (.agg #[.slice a' r.length r.length, .slice b' q.length q.length]) ∧ PkNew w.heap.size w'.heap.size w' a' b' r q ∧ Below w.heap.size w w' := by
  have HT1 := fun W hW => Lib.hid ((toInt64S_new a c r W hW hr).mono (fun e W' k => show ∃ a', e = .returned (.slice a' r.length r.length) ∧ NumsNew W.heap.size W'.heap.size W' a' r ∧ Below W.heap.size W W' from ⟨_, k⟩))
  have HT2 := fun W hW => Lib.hid (toHeardS_new b d q W hW hh)
  have HI1 := Lib.hid h1
  have HI2 := Lib.hid h2
  clear h1 h2 hr hh
  generalize r.length = N at *
  generalize q.length = M at *
  go_enter Try.func43, Try.ntmps43
  go_wp2_with (first
    | (refine wpList_box_h rfl 62 (.tmp 0) rfl #[.slice a N c, .slice b M d] rfl ?_; intro w1 R1 e1 g1 b1; have HL1 := Lib.hid (show Lg w w1 [(R1, #[.slice a N c, .slice b M d], 62)] [] from (Lg.first w).box e1 g1 b1); clear g1 b1 e1)
    | (refine wpList_alloc_h rfl 67 rfl (.agg #[.slice none 0 0, .slice none 0 0]) (by kernel_rfl) #[.slice none 0 0, .slice none 0 0] rfl ?_; intro w2 R2 e2 g2 b2; have qR2_R1 : R1 < R2 := Nat.lt_of_lt_of_eq (HL1.out.lt (.head _)) e2; have HL2 := Lib.hid (show Lg w w2 [(R2, #[.slice none 0 0, .slice none 0 0], 67), (R1, #[.slice a N c, .slice b M d], 62)] [] from HL1.out.box e2 g2 b2); clear g2 b2 e2)
    | (refine wpList_alloc_h rfl 67 rfl (.agg #[.slice none 0 0, .slice none 0 0]) (by kernel_rfl) #[.slice none 0 0, .slice none 0 0] rfl ?_; intro w3 R3 e3 g3 b3; have qR3_R2 : R2 < R3 := Nat.lt_of_lt_of_eq (HL2.out.lt (.head _)) e3; have qR3_R1 : R1 < R3 := Nat.lt_of_lt_of_eq (HL2.out.lt (.tail _ (.head _))) e3; have HL3 := Lib.hid (show Lg w w3 [(R3, #[.slice none 0 0, .slice none 0 0], 67), (R2, #[.slice none 0 0, .slice none 0 0], 67), (R1, #[.slice a N c, .slice b M d], 62)] [] from HL2.out.box e3 g3 b3); clear g3 b3 e3)
    | (refine wpList_load_one rfl 25 (.tmp 4) rfl (R1) 0 rfl 62 #[.slice a N c, .slice b M d] (0, 0) (HL3.out.get (.tail _ (.tail _ (.head _)))) (.slice a N c) rfl _ Try.underlying25 rfl (by kernel_rfl) ?_))
  refine ((HT1 _ (HI1.out.kept HL3.out.below)).out).mono ?_
  rintro e w4 ⟨a4, rfl, hn, h⟩
  obtain ⟨L4, e4⟩ : ∃ x, w3.heap.size = x := ⟨_, rfl⟩
  obtain ⟨H4, f4⟩ : ∃ x, w4.heap.size = x := ⟨_, rfl⟩
  have qL4_R3 : R3 < L4 := Nat.lt_of_lt_of_eq (HL3.out.lt (.head _)) e4
  have qL4_R2 : R2 < L4 := Nat.lt_of_lt_of_eq (HL3.out.lt (.tail _ (.head _))) e4
  have qL4_R1 : R1 < L4 := Nat.lt_of_lt_of_eq (HL3.out.lt (.tail _ (.tail _ (.head _)))) e4
  have qH4_L4 : L4 ≤ H4 := (by rw [← e4, ← f4]; exact h.size)
  have HL4 := Lib.hid (show Lg w w4 [(R3, #[.slice none 0 0, .slice none 0 0], 67), (R2, #[.slice none 0 0, .slice none 0 0], 67), (R1, #[.slice a N c, .slice b M d], 62)] [(L4, H4, fun W => NumsNew L4 H4 W a4 r)] from HL3.out.made e4 f4 h (by rw [← e4, ← f4]; exact hn.solid))
  clear h hn e4 f4
  go_wp2_with (first
    | (refine wpList_put_at rfl 25 (.tmp 7) (.tmp 6) rfl rfl (R3) 0 rfl (.slice a4 N N) rfl #[.slice a4 N N] rfl 67 #[.slice none 0 0, .slice none 0 0] #[.slice a4 N N, .slice none 0 0] (HL4.out.get (.head _)) (by kernel_rfl) (by kernel_rfl) (by kernel_rfl) (by kernel_rfl) ?_; intro w5 g5 o5; have HL5 := Lib.hid (show Lg w w5 [(R3, #[.slice a4 N N, .slice none 0 0], 67), (R2, #[.slice none 0 0, .slice none 0 0], 67), (R1, #[.slice a N c, .slice b M d], 62)] [(L4, H4, fun W => NumsNew L4 H4 W a4 r)] from HL4.out.put 0 rfl g5 o5 (List.forall_mem_cons.2 ⟨Nat.ne_of_lt qR3_R2, (List.forall_mem_cons.2 ⟨Nat.ne_of_lt qR3_R1, (fun _ h => nomatch h)⟩)⟩) (List.forall_mem_cons.2 ⟨.inr qL4_R3, (fun _ h => nomatch h)⟩) rfl); clear g5 o5)
    | (refine wpList_load_one rfl 60 (.tmp 8) rfl (R1) 1 rfl 62 #[.slice a N c, .slice b M d] (0, 0) (HL5.out.get (.tail _ (.tail _ (.head _)))) (.slice b M d) rfl _ Try.underlying60 rfl (by kernel_rfl) ?_))
  refine ((HT2 _ (HI2.out.kept HL5.out.below)).out).mono ?_
  rintro e w6 ⟨a6, rfl, hn, h⟩
  obtain ⟨L6, e6⟩ : ∃ x, w5.heap.size = x := ⟨_, rfl⟩
  obtain ⟨H6, f6⟩ : ∃ x, w6.heap.size = x := ⟨_, rfl⟩
  have qL6_R3 : R3 < L6 := Nat.lt_of_lt_of_eq (HL5.out.lt (.head _)) e6
  have qL6_R2 : R2 < L6 := Nat.lt_of_lt_of_eq (HL5.out.lt (.tail _ (.head _))) e6
  have qL6_R1 : R1 < L6 := Nat.lt_of_lt_of_eq (HL5.out.lt (.tail _ (.tail _ (.head _)))) e6
  have qL6_H4 : H4 ≤ L6 := Nat.le_trans (HL5.out.hi (.head _)).2 (Nat.le_of_eq e6)
  have qH6_L6 : L6 ≤ H6 := (by rw [← e6, ← f6]; exact h.size)
  have HL6 := Lib.hid (show Lg w w6 [(R3, #[.slice a4 N N, .slice none 0 0], 67), (R2, #[.slice none 0 0, .slice none 0 0], 67), (R1, #[.slice a N c, .slice b M d], 62)] [(L6, H6, fun W => RsNew hdL 3 112 L6 H6 W a6 q), (L4, H4, fun W => NumsNew L4 H4 W a4 r)] from HL5.out.made e6 f6 h (by rw [← e6, ← f6]; exact hn.solid))
  clear h hn e6 f6
  go_wp2_with (first
    | (refine wpList_put_at rfl 65 (.tmp 11) (.tmp 10) rfl rfl (R3) 1 rfl (.slice a6 M M) rfl #[.slice a6 M M] rfl 67 #[.slice a4 N N, .slice none 0 0] #[.slice a4 N N, .slice a6 M M] (HL6.out.get (.head _)) (by kernel_rfl) (by kernel_rfl) (by kernel_rfl) (by kernel_rfl) ?_; intro w7 g7 o7; have HL7 := Lib.hid (show Lg w w7 [(R3, #[.slice a4 N N, .slice a6 M M], 67), (R2, #[.slice none 0 0, .slice none 0 0], 67), (R1, #[.slice a N c, .slice b M d], 62)] [(L6, H6, fun W => RsNew hdL 3 112 L6 H6 W a6 q), (L4, H4, fun W => NumsNew L4 H4 W a4 r)] from HL6.out.put 0 rfl g7 o7 (List.forall_mem_cons.2 ⟨Nat.ne_of_lt qR3_R2, (List.forall_mem_cons.2 ⟨Nat.ne_of_lt qR3_R1, (fun _ h => nomatch h)⟩)⟩) (List.forall_mem_cons.2 ⟨.inr qL6_R3, (List.forall_mem_cons.2 ⟨.inr qL4_R3, (fun _ h => nomatch h)⟩)⟩) rfl); clear g7 o7)
    | (refine wpList_load_at rfl 67 (.tmp 3) rfl (R3) 0 rfl 67 #[.slice a4 N N, .slice a6 M M] (0, 0) (HL7.out.get (.head _)) [.slice a4 N N, .slice a6 M M] rfl _ Try.underlying67 rfl (by kernel_rfl) ?_)
    | (refine wpList_put_at rfl 67 (.tmp 2) (.tmp 12) rfl rfl (R2) 0 rfl (.agg #[.slice a4 N N, .slice a6 M M]) rfl #[.slice a4 N N, .slice a6 M M] rfl 67 #[.slice none 0 0, .slice none 0 0] #[.slice a4 N N, .slice a6 M M] (HL7.out.get (.tail _ (.head _))) (by kernel_rfl) (by kernel_rfl) (by kernel_rfl) (by kernel_rfl) ?_; intro w8 g8 o8; have HL8 := Lib.hid (show Lg w w8 [(R3, #[.slice a4 N N, .slice a6 M M], 67), (R2, #[.slice a4 N N, .slice a6 M M], 67), (R1, #[.slice a N c, .slice b M d], 62)] [(L6, H6, fun W => RsNew hdL 3 112 L6 H6 W a6 q), (L4, H4, fun W => NumsNew L4 H4 W a4 r)] from HL7.out.put 1 rfl g8 o8 (List.forall_mem_cons.2 ⟨Nat.ne_of_gt qR3_R2, (List.forall_mem_cons.2 ⟨Nat.ne_of_lt qR2_R1, (fun _ h => nomatch h)⟩)⟩) (List.forall_mem_cons.2 ⟨.inr qL6_R2, (List.forall_mem_cons.2 ⟨.inr qL4_R2, (fun _ h => nomatch h)⟩)⟩) rfl); clear g8 o8))
  exact bodyPost_ret (results_cell_row (p := 2) (ty := 67) (by kernel_rfl) _ _ (R2) 67 _ (0, 0) _ rfl (HL8.out.get (.tail _ (.head _))) Try.underlying67 rfl (by kernel_rfl)) rfl ⟨_, _, rfl, PkNew.two (mid := L6) (Nat.le_trans (HL8.out.lo (.tail _ (.head _))) (Nat.le_trans (HL8.out.hi (.tail _ (.head _))).1 qL6_H4)) (Nat.le_trans (HL8.out.hi (.head _)).1 (HL8.out.hi (.head _)).2) ((HL8.out.at (.tail _ (.head _))).wide (HL8.out.lo (.tail _ (.head _))) qL6_H4) ((HL8.out.at (.head _)).wide (Nat.le_refl _) (HL8.out.hi (.head _)).2), HL8.out.below⟩
set_option maxRecDepth 100000 in
set_option maxHeartbeats 4000000 in
theorem eqPicker_same (a b a' b' : Option Addr) (c d c' d' : Nat) (r : List Int) (q : List Hd) (w : World) (h1 : NumsIn w a r) (h2 : RsIn hdL 3 w b q) (h1' : NumsIn w a' r) (h2' : RsIn hdL 3 w b' q) (hr : r.length ≤ 1048576) (hh : q.length ≤ 1048576) :
    Calls Try.prog 45 #[.agg #[.slice a r.length c, .slice b q.length d], .agg #[.slice a' r.length c', .slice b' q.length d']] w fun e w' => e = .returned (.bool true) ∧ Below w.heap.size w w' := by
  have HE1 := fun W hW hW' => Lib.hid (eqInt64S_same a a' c c' r W hW hW' hr)
  have HE2 := fun W hW hW' => Lib.hid (eqHeardS_same b b' d d' q W hW hW' hh)
  have HI1 := Lib.hid h1
  have HI2 := Lib.hid h2
  have HJ1 := Lib.hid h1'
  have HJ2 := Lib.hid h2'
  clear h1 h2 h1' h2' hr hh
  generalize r.length = N at *
  generalize q.length = M at *
  go_enter Try.func45, Try.ntmps45
  go_wp2_with (first
    | (refine wpList_box_h rfl 67 (.tmp 0) rfl #[.slice a N c, .slice b M d] rfl ?_; intro w1 R1 e1 g1 b1; have HL1 := Lib.hid (show Lg w w1 [(R1, #[.slice a N c, .slice b M d], 67)] [] from (Lg.first w).box e1 g1 b1); clear g1 b1 e1)
    | (refine wpList_box_h rfl 67 (.tmp 1) rfl #[.slice a' N c', .slice b' M d'] rfl ?_; intro w2 R2 e2 g2 b2; have qR2_R1 : R1 < R2 := Nat.lt_of_lt_of_eq (HL1.out.lt (.head _)) e2; have HL2 := Lib.hid (show Lg w w2 [(R2, #[.slice a' N c', .slice b' M d'], 67), (R1, #[.slice a N c, .slice b M d], 67)] [] from HL1.out.box e2 g2 b2); clear g2 b2 e2)
    | (refine wpList_load_one rfl 25 (.tmp 5) rfl (R1) 0 rfl 67 #[.slice a N c, .slice b M d] (0, 0) (HL2.out.get (.tail _ (.head _))) (.slice a N c) rfl _ Try.underlying25 rfl (by kernel_rfl) ?_)
    | (refine wpList_load_one rfl 25 (.tmp 7) rfl (R2) 0 rfl 67 #[.slice a' N c', .slice b' M d'] (0, 0) (HL2.out.get (.head _)) (.slice a' N c') rfl _ Try.underlying25 rfl (by kernel_rfl) ?_))
  refine ((HE1 _ (HI1.out.kept HL2.out.below) (HJ1.out.kept HL2.out.below)).out).mono ?_
  rintro e w3 ⟨rfl, h⟩
  have HL3 := Lib.hid (show Lg w w3 [(R2, #[.slice a' N c', .slice b' M d'], 67), (R1, #[.slice a N c, .slice b M d], 67)] [] from HL2.out.kept h)
  clear h
  go_wp2_with (first
    | (refine wpList_load_one rfl 65 (.tmp 11) rfl (R1) 1 rfl 67 #[.slice a N c, .slice b M d] (0, 0) (HL3.out.get (.tail _ (.head _))) (.slice b M d) rfl _ Try.underlying65 rfl (by kernel_rfl) ?_)
    | (refine wpList_load_one rfl 65 (.tmp 13) rfl (R2) 1 rfl 67 #[.slice a' N c', .slice b' M d'] (0, 0) (HL3.out.get (.head _)) (.slice b' M d') rfl _ Try.underlying65 rfl (by kernel_rfl) ?_))
  refine ((HE2 _ (HI2.out.kept HL3.out.below) (HJ2.out.kept HL3.out.below)).out).mono ?_
  rintro e w4 ⟨rfl, h⟩
  have HL4 := Lib.hid (show Lg w w4 [(R2, #[.slice a' N c', .slice b' M d'], 67), (R1, #[.slice a N c, .slice b M d], 67)] [] from HL3.out.kept h)
  clear h
  go_wp2_with fail
  go_ret
  exact ⟨rfl, HL4.out.below⟩
set_option maxRecDepth 100000 in
set_option maxHeartbeats 4000000 in
theorem markPicker_1 {lo hi : Nat} (a b : Option Addr) (c d : Nat) (r : List Int) (q : List Hd) (w : World) (k : PkNew lo hi w a b r q) (hhi : hi ≤ w.heap.size) (hr : r.length ≤ 1048576) (hh : q.length ≤ 1048576) :
    Calls Try.prog 48 #[.agg #[.slice a r.length c, .slice b q.length d], .int .i64 1] w fun e w' => e = .returned (.int .i64 ((1 + r.length + 3 * q.length : Nat) : Int)) ∧ PkNew lo hi w' a b (nmarks 1 r.length) (marksHd (1 + r.length) q.length) ∧ Out lo hi w w' := by
  obtain ⟨l1, h1, l2, h2, q1, q2, q3, k1, k2⟩ := k
  have HM1 := fun W hW => Lib.hid (markInt64S_any (lo := l1) (hi := h1) a c r 1 W hW (by omega) (by omega))
  have HM2 := fun W hW => Lib.hid (markHeardS_any (lo := l2) (hi := h2) b d q (1 + r.length) W hW (by omega) (by omega))
  have HK1 := Lib.hid k1
  have HK2 := Lib.hid k2
  clear k1 k2 hr hh
  generalize r.length = N at *
  generalize q.length = M at *
  obtain ⟨K, hK⟩ : ∃ K, 1 + N = K := ⟨_, rfl⟩
  rw [hK] at HM1 HM2 ⊢
  clear hK
  go_enter Try.func48, Try.ntmps48
  go_wp2_with (first
    | (refine wpList_box_h rfl 67 (.tmp 0) rfl #[.slice a N c, .slice b M d] rfl ?_; intro w1 R1 e1 g1 b1; have HL1 := Lib.hid (show Lg w w1 [(R1, #[.slice a N c, .slice b M d], 67)] [] from (Lg.first w).box e1 g1 b1); clear g1 b1 e1)
    | (refine wpList_load_one rfl 25 (.tmp 5) rfl (R1) 0 rfl 67 #[.slice a N c, .slice b M d] (0, 0) (HL1.out.get (.head _)) (.slice a N c) rfl _ Try.underlying25 rfl (by kernel_rfl) ?_))
  refine (HM1 _ (HK1.out.kept HL1.out.below)).out.mono ?_
  rintro e w2 ⟨rfl, hn, ho⟩
  have HR2 := Lib.hid (show w2.heap[R1]? = some (.cells #[.slice a N c, .slice b M d] 67 (0, 0)) from (ho.block R1 (HL1.out.lt (.head _)) (.inr (Nat.le_trans q1.2.2 (Nat.le_trans hhi (HL1.out.ge (.head _)))))).trans (HL1.out.get (.head _)))
  have HN2 := Lib.hid hn
  have HO2 := Lib.hid ho
  have HH2 := Lib.hid ((HK2.out.kept HL1.out.below).out ho q3.symm)
  clear hn ho
  go_wp2_with (first
    | (refine wpList_load_one rfl 65 (.tmp 9) rfl (R1) 1 rfl 67 #[.slice a N c, .slice b M d] (0, 0) HR2.out (.slice b M d) rfl _ Try.underlying65 rfl (by kernel_rfl) ?_))
  refine (HM2 _ HH2.out).out.mono ?_
  rintro e w3 ⟨rfl, hn3, ho3⟩
  go_wp2_with fail
  go_ret
  refine ⟨rfl, ⟨l1, h1, l2, h2, q1, q2, q3, HN2.out.out ho3 q3, hn3⟩, ?_⟩
  exact (Out.of_below HL1.out.below).trans ((HO2.out.span q1.1 q1.2.2).trans (ho3.span q2.1 q2.2.2))
set_option maxRecDepth 100000 in
set_option maxHeartbeats 4000000 in
theorem heldPicker_1 {lo hi : Nat} (a b : Option Addr) (c d : Nat) (N M : Nat) (w : World) (k : PkNew lo hi w a b (nmarks 1 N) (marksHd (1 + N) M)) (hr : N ≤ 1048576) (hh : M ≤ 1048576) :
    Calls Try.prog 49 #[.agg #[.slice a N c, .slice b M d], .int .i64 1] w fun e w' => e = .returned (.int .i64 ((1 + N + 3 * M : Nat) : Int)) ∧ Below w.heap.size w w' := by
  obtain ⟨l1, h1, l2, h2, q1, q2, q3, k1, k2⟩ := k
  have HH1 := fun W hW => Lib.hid ((heldInt64S_any a c N 1 W hW (by omega) (by omega)).mono (fun e W' k => show e = .returned (.int .i64 ((1 + N : Nat) : Int)) ∧ Below W.heap.size W W' from ⟨k.1, k.2 ▸ Below.refl _ _⟩))
  have HH2 := fun W hW => Lib.hid (heldHeardS_any (lo := l2) (hi := h2) b d M (1 + N) W hW (by omega) (by omega))
  have HK1 := Lib.hid k1.nums
  have HK2 := Lib.hid k2
  have hd1 : decide (((1 + N : Nat) : Int) < 0) = false := decide_eq_false (by omega)
  have hd2 : decide (((1 + N + 3 * M : Nat) : Int) < 0) = false := decide_eq_false (by omega)
  clear k1 k2 hr hh
  obtain ⟨K, hK⟩ : ∃ K, 1 + N = K := ⟨_, rfl⟩
  rw [hK] at HH1 HH2 HK2 hd1 hd2 ⊢
  obtain ⟨K2, hK2⟩ : ∃ K2, K + 3 * M = K2 := ⟨_, rfl⟩
  rw [hK2] at HH2 hd2 ⊢
  clear hK hK2
  go_enter Try.func49, Try.ntmps49
  go_wp2_with (first
    | (refine wpList_box_h rfl 67 (.tmp 0) rfl #[.slice a N c, .slice b M d] rfl ?_; intro w1 R1 e1 g1 b1; have HL1 := Lib.hid (show Lg w w1 [(R1, #[.slice a N c, .slice b M d], 67)] [] from (Lg.first w).box e1 g1 b1); clear g1 b1 e1)
    | (refine wpList_load_one rfl 25 (.tmp 5) rfl (R1) 0 rfl 67 #[.slice a N c, .slice b M d] (0, 0) (HL1.out.get (.head _)) (.slice a N c) rfl _ Try.underlying25 rfl (by kernel_rfl) ?_))
  refine ((HH1 _ (HK1.out.kept HL1.out.below)).out).mono ?_
  rintro e w2 ⟨rfl, h⟩
  have HL2 := Lib.hid (show Lg w w2 [(R1, #[.slice a N c, .slice b M d], 67)] [] from HL1.out.kept h)
  clear h
  go_wp2_with (first
    | (refine wpList_load_one rfl 65 (.tmp 11) rfl (R1) 1 rfl 67 #[.slice a N c, .slice b M d] (0, 0) (HL2.out.get (.head _)) (.slice b M d) rfl _ Try.underlying65 rfl (by kernel_rfl) ?_))
  refine ((HH2 _ (HK2.out.kept HL2.out.below)).out).mono ?_
  rintro e w3 ⟨rfl, h⟩
  have HL3 := Lib.hid (show Lg w w3 [(R1, #[.slice a N c, .slice b M d], 67)] [] from HL2.out.kept h)
  clear h
  go_wp2_with fail
  go_ret
  exact ⟨rfl, HL3.out.below⟩
end Go.Proofs.Ytdhmcepnmbchkaa
