/- A Picker that shares no memory with this one: the program's. Nothing that was there is written. -/
import Derived.Test.YtdhmcepnmbchkaaPickCopy
import Derived.Test.YtdhmcepnmbchkaaCloneRs
namespace Go.Proofs.Ytdhmcepnmbchkaa
open Go.RowKit
set_option linter.unusedVariables false

theorem ncells_flat (l : List Int) : ncells l = l.flatMap nC := by
  unfold ncells
  induction l with
  | nil => rfl
  | cons x l ih => rw [List.map_cons, List.flatMap_cons, ih]; rfl
/-- The row of what is heard. -/
def FpB (u : Nat) (q : List Hd) (W : World) (v : Value) : Prop := ∃ lo hi, u ≤ lo ∧ lo ≤ hi ∧ hi ≤ W.heap.size ∧ OwnIn hdL 3 112 lo hi W v q
theorem FpB.out {u S : Nat} {r : List Hd} {W W' : World} {v : Value} (h : FpB u r W v) (hS : S < u) (ho : Out S (S + 1) W W') : FpB u r W' v := by
  obtain ⟨lo, hi, h2, h3, h4, h5⟩ := h
  exact ⟨lo, hi, h2, h3, Nat.le_trans h4 ho.size, h5.out ho h4 (.inr (by omega))⟩
theorem FpB.form {u : Nat} {q : List Hd} {W : World} {v : Value} (h : FpB u q W v) : ∃ b d, v = .slice b q.length d ∧ q.length ≤ d := by
  obtain ⟨lo, hi, h2, h3, h4, h5⟩ := h
  obtain ⟨b, d, e, hd, _⟩ := h5.new hdL_len
  exact ⟨b, d, e, hd⟩
def FpG (u S N : Nat) (r : List Int) (q : List Hd) (W : World) : Prop := ∃ x y, W.heap[S]? = some (.cells #[x, y] 67 (0, 0)) ∧ CpA u N r W x ∧ FpB u q W y
def FpT (u R S : Nat) (N M : Nat) (a b : Option Addr) (c d : Nat) (r : List Int) (q : List Hd) : Nat → World → Value → Prop
  | 0, _, v => v = .pointer (some ⟨R, 0, none⟩)
  | 1, _, v => v = .slice a N c
  | 2, w, v => CpA u N r w v
  | 3, _, v => v = .pointer (some ⟨R, 1, none⟩)
  | 4, _, v => v = .slice b M d
  | 5, w, v => FpB u q w v
  | 6, w, v => ∃ x y, v = .agg #[x, y] ∧ CpA u N r w x ∧ FpB u q w y
  | _, w, _ => FpG u S N r q w
def FpR (u S N : Nat) (r : List Int) (q : List Hd) (W W' : World) : Prop := Out S (S + 1) W W' ∧ (FpG u S N r q W → FpG u S N r q W')
theorem FpT.kept {u R S N M : Nat} {a b : Option Addr} {c d : Nat} {r : List Int} {q : List Hd} (hS : S < u) : ∀ i w w' v, FpR u S N r q w w' → FpT u R S N M a b c d r q i w v → FpT u R S N M a b c d r q i w' v
  | 0, _, _, _, _, h => h
  | 1, _, _, _, _, h => h
  | 2, _, _, _, hR, h => CpA.out h hS hR.1
  | 3, _, _, _, _, h => h
  | 4, _, _, _, _, h => h
  | 5, _, _, _, hR, h => FpB.out h hS hR.1
  | 6, _, _, _, hR, ⟨x, y, e, h1, h2⟩ => ⟨x, y, e, CpA.out h1 hS hR.1, FpB.out h2 hS hR.1⟩
  | _ + 7, _, _, _, hR, h => hR.2 h
theorem FpR.grown {u S N : Nat} {r : List Int} {q : List Hd} {W W' : World} (hS : S < u) (hl : S < W.heap.size) (hb : Below W.heap.size W W') : FpR u S N r q W W' :=
  ⟨Out.of_below hb, fun ⟨x, y, h1, h2, h3⟩ => ⟨x, y, (hb.block S hl).trans h1, h2.out hS (Out.of_below hb), h3.out hS (Out.of_below hb)⟩⟩
/-- A Picker of the call's own: the row of Ranks, and the row of what is heard, which may grow. -/
def PkOwn (lo hi : Nat) (W : World) (a : Option Addr) (v : Value) (r : List Int) (q : List Hd) : Prop :=
  ∃ l1 h1 l2 h2, (lo ≤ l1 ∧ l1 ≤ h1 ∧ h1 ≤ hi) ∧ (lo ≤ l2 ∧ l2 ≤ h2 ∧ h2 ≤ hi) ∧ (h1 ≤ l2 ∨ h2 ≤ l1) ∧ NumsNew l1 h1 W a r ∧ OwnIn hdL 3 112 l2 h2 W v q
theorem PkOwn.new {lo hi : Nat} {W : World} {a : Option Addr} {v : Value} {r : List Int} {q : List Hd} (h : PkOwn lo hi W a v r q) : ∃ b d, v = .slice b q.length d ∧ q.length ≤ d ∧ PkNew lo hi W a b r q := by
  obtain ⟨l1, h1, l2, h2, e1, e2, e3, e4, e5⟩ := h
  obtain ⟨b, d, e, hd, hn⟩ := e5.new hdL_len
  exact ⟨b, d, e, hd, l1, h1, l2, h2, e1, e2, e3, e4, hn⟩
set_option maxRecDepth 100000 in
set_option maxHeartbeats 8000000 in
theorem freshPicker_any (a b : Option Addr) (c d : Nat) (r : List Int) (q : List Hd) (w : World) (h1 : NumsIn w a r) (h2 : RsIn hdL 3 w b q) (hr : r.length ≤ 1048576) (hq : q.length ≤ 1048576) :
    Calls Try.prog 101 #[.agg #[.slice a r.length c, .slice b q.length d]] w fun e w' => ∃ a' c' v, e = .returned (.agg #[.slice a' r.length c', v]) ∧ r.length ≤ c' ∧ PkOwn w.heap.size w'.heap.size w' a' v r q ∧ Below w.heap.size w w' := by
  have HI := Lib.hid h1
  have HJ := Lib.hid h2
  have HC1 := fun W hW => Lib.hid (clone_any a c r W hW hr)
  have HC2 := fun W hW => Lib.hid (clone_h b d q W hW hq)
  obtain ⟨N, hN⟩ : ∃ N, r.length = N := ⟨_, rfl⟩
  obtain ⟨M, hM⟩ : ∃ M, q.length = M := ⟨_, rfl⟩
  have HN := Lib.hid hN
  have HM := Lib.hid hM
  rw [hN] at hr HC1 ⊢
  rw [hM] at hq HC2 ⊢
  clear hN hM h1 h2
  go_enter Try.func101, Try.ntmps101
  go_wp2_with (first
    | (refine wpList_box_h rfl 67 (.tmp 0) rfl #[.slice a N c, .slice b M d] rfl ?_; intro w1 R1 e1 g1 b1; have HL1 := Lib.hid (show Lg w w1 [(R1, #[.slice a N c, .slice b M d], 67)] [] from (Lg.first w).box e1 g1 b1); clear g1 b1 e1)
    | (refine wpList_alloc_h rfl 67 rfl (.agg #[.slice none 0 0, .slice none 0 0]) (by kernel_rfl) #[.slice none 0 0, .slice none 0 0] rfl ?_; intro w2 R2 e2 g2 b2; have qR2_R1 : R1 < R2 := Nat.lt_of_lt_of_eq (HL1.out.lt (.head _)) e2; have HL2 := Lib.hid (show Lg w w2 [(R2, #[.slice none 0 0, .slice none 0 0], 67), (R1, #[.slice a N c, .slice b M d], 67)] [] from HL1.out.box e2 g2 b2); clear g2 b2 e2))
  have HB2 := Lib.hid HL2.out.below
  have lR1 : R1 < w2.heap.size := HL2.out.lt (.tail _ (.head _))
  have lR2 : R2 < w2.heap.size := HL2.out.lt (.head _)
  have gR1 : w.heap.size ≤ R1 := HL2.out.ge (.tail _ (.head _))
  have gR2 : w.heap.size ≤ R2 := HL2.out.ge (.head _)
  have hR1 := Lib.hid (HL2.out.get (.tail _ (.head _)))
  have hR2 := Lib.hid (HL2.out.get (.head _))
  have hne : R1 ≠ R2 := Nat.ne_of_lt qR2_R1
  obtain ⟨u, hu⟩ : ∃ u, w2.heap.size = u := ⟨_, rfl⟩
  have lS : R2 < u := hu ▸ lR2
  have HIS := Lib.hid (show ∀ W, Out R2 (R2 + 1) w2 W → NumsIn W a r from fun W hO => by
    rcases HI.out with h | ⟨B, o, rfl, hlt, hc⟩
    · exact .inl h
    · exact .inr ⟨B, o, rfl, Nat.lt_of_lt_of_le hlt (Nat.le_trans HB2.out.size hO.size), fun i x hx => (hO.cell (p := ⟨B, _, none⟩) (Nat.lt_of_lt_of_le hlt HB2.out.size) (.inl (Nat.lt_of_lt_of_le hlt gR2))).trans ((HB2.out.cell (p := ⟨B, _, none⟩) hlt).trans (hc i x hx))⟩)
  have HJS := Lib.hid (show ∀ W, Out R2 (R2 + 1) w2 W → RsIn hdL 3 W b q from fun W hO => by
    rcases HJ.out with h | ⟨B, o, rfl, hlt, hc⟩
    · exact .inl h
    · exact .inr ⟨B, o, rfl, Nat.lt_of_lt_of_le hlt (Nat.le_trans HB2.out.size hO.size), fun i x hx j v hv => (hO.cell (p := ⟨B, _, none⟩) (Nat.lt_of_lt_of_le hlt HB2.out.size) (.inl (Nat.lt_of_lt_of_le hlt gR2))).trans ((HB2.out.cell (p := ⟨B, _, none⟩) hlt).trans (hc i x hx j v hv))⟩)
  clear HL1 HL2 HI HJ
  refine wp_region_anyordG (CpC w2 R2) (FpR u R2 N r q) (FpT u R1 R2 N M a b c d r q) (by kernel_rfl) (by kernel_rfl) (by kernel_rfl) (FpT.kept lS) ⟨Out.of_below (Below.refl _ _).drew, _, _, hR2.out⟩ ?_ ?_
  · refine ⟨⟨.inl rfl, fun a1 W hC hK => ?_⟩, ⟨.inl rfl, fun a1 W hC hK => ?_⟩, ⟨.inl rfl, fun a1 W hC hK => ?_⟩, ⟨.inl rfl, fun a1 W hC hK => ?_⟩, ⟨.inl rfl, fun a1 W hC hK => ?_⟩, ⟨.inl rfl, fun a1 W hC hK => ?_⟩, ⟨.inl rfl, fun a1 W hC hK => ?_⟩, ⟨.inl rfl, fun a1 W hC hK => ?_⟩, trivial⟩
    · have e1 : a1.eval (.tmp 1) = .pointer (some ⟨R1, 0, none⟩) := (hK.old 1 (by kernel_rfl)).trans rfl
      simp only [Act.eval, Array.getD_eq_getD_getElem?] at e1
      exact ob_value (v := .pointer (some ⟨R1, 0, none⟩)) (w' := W) (by simp [execOp, go_sem, e1]) ⟨_, rfl, hC, FpR.grown lS (Nat.lt_of_lt_of_le lR2 hC.out.size) (Below.refl _ _), rfl⟩
    · have e1 : a1.eval (.tmp 3) = .pointer (some ⟨R1, 0, none⟩) := hK.get 0 3 (by kernel_rfl) rfl rfl (by kernel_rfl)
      have hcl : W.cell? ⟨R1, 0, none⟩ = some (.slice a N c) := (hC.out.cell (p := ⟨R1, 0, none⟩) lR1 (by show R1 < R2 ∨ R2 + 1 ≤ R1; omega)).trans ((cell_of_row w2 R1 0 _ _ (0, 0) hR1.out).trans rfl)
      simp only [Act.eval, Array.getD_eq_getD_getElem?] at e1
      exact ob_value (v := .slice a N c) (w' := W) (by simp [execOp, go_sem, e1, hcl]) ⟨_, rfl, hC, FpR.grown lS (Nat.lt_of_lt_of_le lR2 hC.out.size) (Below.refl _ _), rfl⟩
    · have e1 : a1.eval (.tmp 4) = .slice a N c := hK.get 1 4 (by kernel_rfl) rfl rfl (by kernel_rfl)
      refine ob_call rfl Try.func59 (by kernel_rfl) (by kernel_rfl) (vals := #[.slice a N c]) (by simp [e1]) ?_
      refine ((HC1 W (HIS.out W hC.out)).out).mono ?_
      rintro e W' ⟨v, rfl, hv, h⟩
      exact ⟨_, rfl, _, rfl, hC.on (Nat.lt_of_lt_of_le lR2 hC.out.size) h, FpR.grown lS (Nat.lt_of_lt_of_le lR2 hC.out.size) h, (by
        rw [show N = r.length from HN.out.symm, ncells_flat] at hv
        obtain ⟨a', c', rfl, hc', hn⟩ := RsNew.of_owns nC_len hv
        exact ⟨a', c', by rw [HN.out], by rw [← HN.out]; exact hc', _, _, by rw [← hu]; exact hC.out.size, h.size, Nat.le_refl _, hn⟩)⟩
    · have e1 : a1.eval (.tmp 1) = .pointer (some ⟨R1, 0, none⟩) := (hK.old 1 (by kernel_rfl)).trans rfl
      simp only [Act.eval, Array.getD_eq_getD_getElem?] at e1
      exact ob_value (v := .pointer (some ⟨R1, 1, none⟩)) (w' := W) (by simp [execOp, go_sem, e1]) ⟨_, rfl, hC, FpR.grown lS (Nat.lt_of_lt_of_le lR2 hC.out.size) (Below.refl _ _), rfl⟩
    · have e1 : a1.eval (.tmp 6) = .pointer (some ⟨R1, 1, none⟩) := hK.get 3 6 (by kernel_rfl) rfl rfl (by kernel_rfl)
      have hcl : W.cell? ⟨R1, 1, none⟩ = some (.slice b M d) := (hC.out.cell (p := ⟨R1, 1, none⟩) lR1 (by show R1 < R2 ∨ R2 + 1 ≤ R1; omega)).trans ((cell_of_row w2 R1 1 _ _ (0, 0) hR1.out).trans rfl)
      simp only [Act.eval, Array.getD_eq_getD_getElem?] at e1
      exact ob_value (v := .slice b M d) (w' := W) (by simp [execOp, go_sem, e1, hcl]) ⟨_, rfl, hC, FpR.grown lS (Nat.lt_of_lt_of_le lR2 hC.out.size) (Below.refl _ _), rfl⟩
    · have e1 : a1.eval (.tmp 7) = .slice b M d := hK.get 4 7 (by kernel_rfl) rfl rfl (by kernel_rfl)
      refine ob_call rfl Try.func130 (by kernel_rfl) (by kernel_rfl) (vals := #[.slice b M d]) (by simp [e1]) ?_
      refine ((HC2 W (HJS.out W hC.out)).out).mono ?_
      rintro e W' ⟨v, rfl, hv, h⟩
      exact ⟨_, rfl, _, rfl, hC.on (Nat.lt_of_lt_of_le lR2 hC.out.size) h, FpR.grown lS (Nat.lt_of_lt_of_le lR2 hC.out.size) h, ⟨_, _, by rw [← hu]; exact hC.out.size, h.size, Nat.le_refl _, hv⟩⟩
    · obtain ⟨x1, k1, e1, hk1, hx1⟩ := hK.get 2 5 (by kernel_rfl) rfl rfl (by kernel_rfl)
      have hy := hK.get 5 8 (by kernel_rfl) rfl rfl (by kernel_rfl)
      generalize e2 : a1.eval (.tmp 8) = y at hy
      obtain ⟨x2, k2, rfl, hk2⟩ := FpB.form hy
      simp only [Act.eval, Array.getD_eq_getD_getElem?] at e1 e2
      exact ob_value (v := .agg #[.slice x1 N k1, .slice x2 q.length k2]) (w' := W) (by simp [execOp, go_sem, e1, e2]) ⟨_, rfl, hC, FpR.grown lS (Nat.lt_of_lt_of_le lR2 hC.out.size) (Below.refl _ _), _, _, rfl, ⟨x1, k1, rfl, hk1, hx1⟩, hy⟩
    · obtain ⟨x, y, e1, hx, hy⟩ := hK.get 6 9 (by kernel_rfl) rfl rfl (by kernel_rfl)
      have e2 : a1.eval (.tmp 2) = .pointer (some ⟨R2, 0, none⟩) := (hK.old 2 (by kernel_rfl)).trans rfl
      obtain ⟨z1, z2, hz⟩ := hC.row
      obtain ⟨x1, k1, rfl, hk1, hx1⟩ := hx
      obtain ⟨x2, k2, rfl, hk2⟩ := hy.form
      exact ob_put_row 67 (.tmp 2) (.tmp 9) rfl R2 e2 (.agg #[.slice x1 N k1, .slice x2 q.length k2]) e1 #[.slice x1 N k1, .slice x2 q.length k2] rfl 67 #[z1, z2] #[.slice x1 N k1, .slice x2 q.length k2] hz (by kernel_rfl) (by kernel_rfl) (by kernel_rfl) (by kernel_rfl) (fun w' g1 o1 => ⟨_, rfl, ⟨hC.out.trans o1, _, _, g1⟩, ⟨o1, fun _ => ⟨_, _, g1, CpA.out ⟨x1, k1, rfl, hk1, hx1⟩ lS o1, hy.out lS o1⟩⟩, _, _, g1, CpA.out ⟨x1, k1, rfl, hk1, hx1⟩ lS o1, hy.out lS o1⟩)
  · intro vs W hC hT
    obtain ⟨x, y, hg, ⟨x1, k1, rfl, hk1, lo1, hi1, a1, a2, a3, a4⟩, hy⟩ : FpG u R2 N r q W := hT 7 (by decide)
    obtain ⟨x2, k2, rfl, hk2⟩ := hy.form
    obtain ⟨lo2, hi2, b1, b2, b3, b4⟩ := hy
    have HB := Lib.hid (hC.out.below HB2.out gR2 HB2.out.size)
    have hwu : w.heap.size ≤ u := by rw [← hu]; exact HB2.out.size
    obtain ⟨p1, q1, p2, q2, s1, s2, s3, s4, s5⟩ := ownIn_apart (by decide) a4 b4 a2 b2
    clear hT
    simp only [fillL, if_true, Act.put, List.setIfInBounds_toArray, List.set_cons_zero, List.set_cons_succ]
    go_wp2_with fail
    exact bodyPost_ret (results_cell_row (p := 2) (ty := 67) (by kernel_rfl) _ _ (R2) 67 _ (0, 0) _ rfl hg Try.underlying67 rfl (by kernel_rfl)) rfl ⟨x1, k1, _, rfl, hk1, ⟨p1, q1, p2, q2, by omega, by omega, s3, s4.nums, s5⟩, HB.out⟩
end Go.Proofs.Ytdhmcepnmbchkaa
