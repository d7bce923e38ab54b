/- A Picker in new memory: the model's copy and the program's. Nothing that was there is written. -/
import Derived.Test.YtdhmcepnmbchkaaPickImpl
import Derived.Test.YtdhmcepnmbchkaaLits
import Derived.Test.YtdhmcepnmbchkaaAnyOrdG
import Derived.Test.YtdhmcepnmbchkaaClone
namespace Go.Proofs.Ytdhmcepnmbchkaa
open Go.RowKit
set_option linter.unusedVariables false

/-- Two rows of a copy, each somewhere behind u. -/
def CpA (u N : Nat) (r : List Int) (W : World) (v : Value) : Prop := ∃ a' c', v = .slice a' N c' ∧ N ≤ c' ∧ ∃ lo hi, u ≤ lo ∧ lo ≤ hi ∧ hi ≤ W.heap.size ∧ RsNew nC 1 2 lo hi W a' r
def CpB (u M : Nat) (q : List Hd) (W : World) (v : Value) : Prop := ∃ b' d', v = .slice b' M d' ∧ M ≤ d' ∧ ∃ lo hi, u ≤ lo ∧ lo ≤ hi ∧ hi ≤ W.heap.size ∧ RsNew hdL 3 112 lo hi W b' q
theorem CpA.out {u N S : Nat} {r : List Int} {W W' : World} {v : Value} (h : CpA u N r W v) (hS : S < u) (ho : Out S (S + 1) W W') : CpA u N r W' v := by
  obtain ⟨a', c', rfl, h1, lo, hi, h2, h3, h4, h5⟩ := h
  exact ⟨a', c', rfl, h1, lo, hi, h2, h3, Nat.le_trans h4 ho.size, h5.out ho (.inr (by omega))⟩
theorem CpB.out {u N S : Nat} {r : List Hd} {W W' : World} {v : Value} (h : CpB u N r W v) (hS : S < u) (ho : Out S (S + 1) W W') : CpB u N r W' v := by
  obtain ⟨a', c', rfl, h1, lo, hi, h2, h3, h4, h5⟩ := h
  exact ⟨a', c', rfl, h1, lo, hi, h2, h3, Nat.le_trans h4 ho.size, h5.out ho (.inr (by omega))⟩
/-- The answer's block holds them. -/
def CpG (u S N M : Nat) (r : List Int) (q : List Hd) (W : World) : Prop := ∃ x y, W.heap[S]? = some (.cells #[x, y] 67 (0, 0)) ∧ CpA u N r W x ∧ CpB u M q W y
def CpT (u R S : Nat) (N M : Nat) (a b : Option Addr) (c d : Nat) (r : List Int) (q : List Hd) : Nat → World → Value → Prop
  | 0, _, v => ∃ g, v = .slice (some ⟨g, 0, none⟩) 0 0
  | 1, _, v => v = .pointer (some ⟨R, 0, none⟩)
  | 2, _, v => v = .slice a N c
  | 3, w, v => CpA u N r w v
  | 4, _, v => ∃ g, v = .slice (some ⟨g, 0, none⟩) 0 0
  | 5, _, v => v = .pointer (some ⟨R, 1, none⟩)
  | 6, _, v => v = .slice b M d
  | 7, w, v => CpB u M q w v
  | 8, w, v => ∃ x y, v = .agg #[x, y] ∧ CpA u N r w x ∧ CpB u M q w y
  | _, w, _ => CpG u S N M r q w
/-- What holds of the world in the midst of the region. -/
structure CpC (U : World) (S : Nat) (W : World) : Prop where
  out : Out S (S + 1) U W
  row : ∃ x y, W.heap[S]? = some (.cells #[x, y] 67 (0, 0))
theorem CpC.on {U W W' : World} {S : Nat} (h : CpC U S W) (hl : S < W.heap.size) (hb : Below W.heap.size W W') : CpC U S W' := by
  obtain ⟨x, y, hx⟩ := h.row
  exact ⟨h.out.trans (Out.of_below hb), x, y, (hb.block S hl).trans hx⟩
def CpR (u S N M : Nat) (r : List Int) (q : List Hd) (W W' : World) : Prop := Out S (S + 1) W W' ∧ (CpG u S N M r q W → CpG u S N M r q W')
theorem CpT.kept {u R S N M : Nat} {a b : Option Addr} {c d : Nat} {r : List Int} {q : List Hd} (hS : S < u) : ∀ i w w' v, CpR u S N M r q w w' → CpT u R S N M a b c d r q i w v → CpT u R S N M a b c d r q i w' v
  | 0, _, _, _, _, h => h
  | 1, _, _, _, _, h => h
  | 2, _, _, _, _, h => h
  | 3, _, _, _, hR, h => CpA.out h hS hR.1
  | 4, _, _, _, _, h => h
  | 5, _, _, _, _, h => h
  | 6, _, _, _, _, h => h
  | 7, _, _, _, hR, h => CpB.out h hS hR.1
  | 8, _, _, _, hR, ⟨x, y, e, h1, h2⟩ => ⟨x, y, e, CpA.out h1 hS hR.1, CpB.out h2 hS hR.1⟩
  | _ + 9, _, _, _, hR, h => hR.2 h
theorem CpR.grown {u S N M : Nat} {r : List Int} {q : List Hd} {W W' : World} (hS : S < u) (hl : S < W.heap.size) (hb : Below W.heap.size W W') : CpR u S N M r q W W' :=
  ⟨Out.of_below hb, fun ⟨x, y, h1, h2, h3⟩ => ⟨x, y, (hb.block S hl).trans h1, h2.out hS (Out.of_below hb), h3.out hS (Out.of_below hb)⟩⟩
theorem PkNew.of_two {lo hi : Nat} {w : World} {a b : Option Addr} {r : List Int} {q : List Hd} {l1 h1 l2 h2 : Nat} (k1 : RsNew nC 1 2 l1 h1 w a r) (k2 : RsNew hdL 3 112 l2 h2 w b q) (g1 : lo ≤ l1 ∧ l1 ≤ h1 ∧ h1 ≤ hi) (g2 : lo ≤ l2 ∧ l2 ≤ h2 ∧ h2 ≤ hi) : PkNew lo hi w a b r q := by
  obtain ⟨x1, y1, x2, y2, e1, e2, e3, e4, e5⟩ := k1.apart (by decide) k2 g1.2.1 g2.2.1
  exact ⟨x1, y1, x2, y2, by omega, by omega, e3, e4.nums, e5⟩
theorem Copy.infoN : (Try.prog.info? 2).map (fun i => (i.zero, i.size, i.bytes)) = some (some (.int .i64 0), 1, 8) := by kernel_rfl
theorem Copy.infoH : (Try.prog.info? 112).map (fun i => (i.zero, i.size, i.bytes)) = some (some (.agg #[.int .i64 0, .int .i64 0, .int .i64 0]), 3, 24) := by kernel_rfl
set_option maxRecDepth 100000 in
set_option maxHeartbeats 8000000 in
theorem l09Copy_any (a b : Option Addr) (c d : Nat) (r : List Int) (q : List Hd) (w : World) (h1 : NumsIn w a r) (h2 : RsIn hdL 3 w b q) (hr : r.length ≤ 1048576) (hq : q.length ≤ 1048576) :
    Calls Try.prog 100 #[.agg #[.slice a r.length c, .slice b q.length d]] w fun e w' => ∃ a' c' b' d', e = .returned (.agg #[.slice a' r.length c', .slice b' q.length d']) ∧ r.length ≤ c' ∧ q.length ≤ d' ∧ PkNew w.heap.size w'.heap.size w' a' b' r q ∧ Below w.heap.size w w' := by
  obtain ⟨i0, hi, hz0, hz1, hz2⟩ := info_parts Copy.infoN
  obtain ⟨j0, hj, hy0, hy1, hy2⟩ := info_parts Copy.infoH
  have HZ := Lib.hid (And.intro hi (And.intro hz0 (And.intro hz1 hz2)))
  have HY := Lib.hid (And.intro hj (And.intro hy0 (And.intro hy1 hy2)))
  have HI := Lib.hid h1.rs
  have HJ := Lib.hid h2
  clear hi hz0 hz1 hz2 hj hy0 hy1 hy2 h1 h2
  obtain ⟨N, hN⟩ : ∃ N, r.length = N := ⟨_, rfl⟩
  obtain ⟨M, hM⟩ : ∃ M, q.length = M := ⟨_, rfl⟩
  have HN := Lib.hid hN
  have HM := Lib.hid hM
  rw [hN] at hr ⊢
  rw [hM] at hq ⊢
  clear hN hM
  go_enter Try.func100, Try.ntmps100
  go_wp2_with (first
    | (refine wpList_box_h rfl 67 (.tmp 0) rfl #[.slice a N c, .slice b M d] rfl ?_; intro w1 R1 e1 g1 b1; have HL1 := Lib.hid (show Lg w w1 [(R1, #[.slice a N c, .slice b M d], 67)] [] from (Lg.first w).box e1 g1 b1); clear g1 b1 e1)
    | (refine wpList_alloc_h rfl 67 rfl (.agg #[.slice none 0 0, .slice none 0 0]) (by kernel_rfl) #[.slice none 0 0, .slice none 0 0] rfl ?_; intro w2 R2 e2 g2 b2; have qR2_R1 : R1 < R2 := Nat.lt_of_lt_of_eq (HL1.out.lt (.head _)) e2; have HL2 := Lib.hid (show Lg w w2 [(R2, #[.slice none 0 0, .slice none 0 0], 67), (R1, #[.slice a N c, .slice b M d], 67)] [] from HL1.out.box e2 g2 b2); clear g2 b2 e2))
  have HB2 := Lib.hid HL2.out.below
  have lR1 : R1 < w2.heap.size := HL2.out.lt (.tail _ (.head _))
  have lR2 : R2 < w2.heap.size := HL2.out.lt (.head _)
  have gR1 : w.heap.size ≤ R1 := HL2.out.ge (.tail _ (.head _))
  have gR2 : w.heap.size ≤ R2 := HL2.out.ge (.head _)
  have hR1 := Lib.hid (HL2.out.get (.tail _ (.head _)))
  have hR2 := Lib.hid (HL2.out.get (.head _))
  have hne : R1 ≠ R2 := Nat.ne_of_lt qR2_R1
  obtain ⟨u, hu⟩ : ∃ u, w2.heap.size = u := ⟨_, rfl⟩
  have lS : R2 < u := hu ▸ lR2
  have HIS := Lib.hid (show ∀ W, Out R2 (R2 + 1) w2 W → RsIn nC 1 W a r from fun W hO => by
    rcases HI.out with h | ⟨B, o, rfl, hlt, hc⟩
    · exact .inl h
    · exact .inr ⟨B, o, rfl, Nat.lt_of_lt_of_le hlt (Nat.le_trans HB2.out.size hO.size), fun i x hx j v hv => (hO.cell (p := ⟨B, _, none⟩) (Nat.lt_of_lt_of_le hlt HB2.out.size) (.inl (Nat.lt_of_lt_of_le hlt gR2))).trans ((HB2.out.cell (p := ⟨B, _, none⟩) hlt).trans (hc i x hx j v hv))⟩)
  have HJS := Lib.hid (show ∀ W, Out R2 (R2 + 1) w2 W → RsIn hdL 3 W b q from fun W hO => by
    rcases HJ.out with h | ⟨B, o, rfl, hlt, hc⟩
    · exact .inl h
    · exact .inr ⟨B, o, rfl, Nat.lt_of_lt_of_le hlt (Nat.le_trans HB2.out.size hO.size), fun i x hx j v hv => (hO.cell (p := ⟨B, _, none⟩) (Nat.lt_of_lt_of_le hlt HB2.out.size) (.inl (Nat.lt_of_lt_of_le hlt gR2))).trans ((HB2.out.cell (p := ⟨B, _, none⟩) hlt).trans (hc i x hx j v hv))⟩)
  clear HL1 HL2 HI HJ
  refine wp_region_anyordG (CpC w2 R2) (CpR u R2 N M r q) (CpT u R1 R2 N M a b c d r q) (by kernel_rfl) (by kernel_rfl) (by kernel_rfl) (CpT.kept lS) ⟨Out.of_below (Below.refl _ _).drew, _, _, hR2.out⟩ ?_ ?_
  · refine ⟨⟨.inl rfl, fun a1 W hC hK => ?_⟩, ⟨.inl rfl, fun a1 W hC hK => ?_⟩, ⟨.inl rfl, fun a1 W hC hK => ?_⟩, ⟨.inl rfl, fun a1 W hC hK => ?_⟩, ⟨.inl rfl, fun a1 W hC hK => ?_⟩, ⟨.inl rfl, fun a1 W hC hK => ?_⟩, ⟨.inl rfl, fun a1 W hC hK => ?_⟩, ⟨.inl rfl, fun a1 W hC hK => ?_⟩, ⟨.inl rfl, fun a1 W hC hK => ?_⟩, ⟨.inl rfl, fun a1 W hC hK => ?_⟩, trivial⟩
    · refine ob_lit0 25 rfl 2 _ Try.underlying25 HZ.out.1 ?_
      intro w' g hg hb
      exact ⟨_, rfl, hC.on (Nat.lt_of_lt_of_le lR2 hC.out.size) hb, CpR.grown lS (Nat.lt_of_lt_of_le lR2 hC.out.size) hb, g, rfl⟩
    · have e1 : a1.eval (.tmp 1) = .pointer (some ⟨R1, 0, none⟩) := (hK.old 1 (by kernel_rfl)).trans rfl
      simp only [Act.eval, Array.getD_eq_getD_getElem?] at e1
      exact ob_value (v := .pointer (some ⟨R1, 0, none⟩)) (w' := W) (by simp [execOp, go_sem, e1]) ⟨_, rfl, hC, CpR.grown lS (Nat.lt_of_lt_of_le lR2 hC.out.size) (Below.refl _ _), rfl⟩
    · have e1 : a1.eval (.tmp 4) = .pointer (some ⟨R1, 0, none⟩) := hK.get 1 4 (by kernel_rfl) rfl rfl (by kernel_rfl)
      have hcl : W.cell? ⟨R1, 0, none⟩ = some (.slice a N c) := (hC.out.cell (p := ⟨R1, 0, none⟩) lR1 (by show R1 < R2 ∨ R2 + 1 ≤ R1; omega)).trans ((cell_of_row w2 R1 0 _ _ (0, 0) hR1.out).trans rfl)
      simp only [Act.eval, Array.getD_eq_getD_getElem?] at e1
      exact ob_value (v := .slice a N c) (w' := W) (by simp [execOp, go_sem, e1, hcl]) ⟨_, rfl, hC, CpR.grown lS (Nat.lt_of_lt_of_le lR2 hC.out.size) (Below.refl _ _), rfl⟩
    · obtain ⟨g, e1⟩ := hK.get 0 3 (by kernel_rfl) rfl rfl (by kernel_rfl)
      have e2 : a1.eval (.tmp 5) = .slice a N c := hK.get 2 5 (by kernel_rfl) rfl rfl (by kernel_rfl)
      refine ob_append0 nC_len nC_one (.tmp 3) (.tmp 5) 25 rfl 2 _ _ _ Try.underlying25 HZ.out.1 HZ.out.2.1 HZ.out.2.2.1 HZ.out.2.2.2 rfl (by decide) g e1 a c r (by rw [HN.out]; exact e2) (HIS.out W hC.out) (by rw [HN.out]; unfold maxLen; omega) (by rw [HN.out]; omega) ?_
      intro w' a' c' hcap hn hb
      rw [HN.out] at hcap
      rw [HN.out]
      exact ⟨_, rfl, hC.on (Nat.lt_of_lt_of_le lR2 hC.out.size) hb, CpR.grown lS (Nat.lt_of_lt_of_le lR2 hC.out.size) hb, a', c', rfl, hcap, _, _, by rw [← hu]; exact hC.out.size, hb.size, Nat.le_refl _, hn⟩
    · refine ob_lit0 65 rfl 112 _ Try.underlying65 HY.out.1 ?_
      intro w' g hg hb
      exact ⟨_, rfl, hC.on (Nat.lt_of_lt_of_le lR2 hC.out.size) hb, CpR.grown lS (Nat.lt_of_lt_of_le lR2 hC.out.size) hb, g, rfl⟩
    · have e1 : a1.eval (.tmp 1) = .pointer (some ⟨R1, 0, none⟩) := (hK.old 1 (by kernel_rfl)).trans rfl
      simp only [Act.eval, Array.getD_eq_getD_getElem?] at e1
      exact ob_value (v := .pointer (some ⟨R1, 1, none⟩)) (w' := W) (by simp [execOp, go_sem, e1]) ⟨_, rfl, hC, CpR.grown lS (Nat.lt_of_lt_of_le lR2 hC.out.size) (Below.refl _ _), rfl⟩
    · have e1 : a1.eval (.tmp 8) = .pointer (some ⟨R1, 1, none⟩) := hK.get 5 8 (by kernel_rfl) rfl rfl (by kernel_rfl)
      have hcl : W.cell? ⟨R1, 1, none⟩ = some (.slice b M d) := (hC.out.cell (p := ⟨R1, 1, none⟩) lR1 (by show R1 < R2 ∨ R2 + 1 ≤ R1; omega)).trans ((cell_of_row w2 R1 1 _ _ (0, 0) hR1.out).trans rfl)
      simp only [Act.eval, Array.getD_eq_getD_getElem?] at e1
      exact ob_value (v := .slice b M d) (w' := W) (by simp [execOp, go_sem, e1, hcl]) ⟨_, rfl, hC, CpR.grown lS (Nat.lt_of_lt_of_le lR2 hC.out.size) (Below.refl _ _), rfl⟩
    · obtain ⟨g, e1⟩ := hK.get 4 7 (by kernel_rfl) rfl rfl (by kernel_rfl)
      have e2 : a1.eval (.tmp 9) = .slice b M d := hK.get 6 9 (by kernel_rfl) rfl rfl (by kernel_rfl)
      refine ob_append0 hdL_len hdL_one (.tmp 7) (.tmp 9) 65 rfl 112 _ _ _ Try.underlying65 HY.out.1 HY.out.2.1 HY.out.2.2.1 HY.out.2.2.2 rfl (by decide) g e1 b d q (by rw [HM.out]; exact e2) (HJS.out W hC.out) (by rw [HM.out]; unfold maxLen; omega) (by rw [HM.out]; omega) ?_
      intro w' a' c' hcap hn hb
      rw [HM.out] at hcap
      rw [HM.out]
      exact ⟨_, rfl, hC.on (Nat.lt_of_lt_of_le lR2 hC.out.size) hb, CpR.grown lS (Nat.lt_of_lt_of_le lR2 hC.out.size) hb, a', c', rfl, hcap, _, _, by rw [← hu]; exact hC.out.size, hb.size, Nat.le_refl _, hn⟩
    · obtain ⟨x1, k1, e1, hk1, hx1⟩ := hK.get 3 6 (by kernel_rfl) rfl rfl (by kernel_rfl)
      obtain ⟨x2, k2, e2, hk2, hx2⟩ := hK.get 7 10 (by kernel_rfl) rfl rfl (by kernel_rfl)
      simp only [Act.eval, Array.getD_eq_getD_getElem?] at e1 e2
      exact ob_value (v := .agg #[.slice x1 N k1, .slice x2 M k2]) (w' := W) (by simp [execOp, go_sem, e1, e2]) ⟨_, rfl, hC, CpR.grown lS (Nat.lt_of_lt_of_le lR2 hC.out.size) (Below.refl _ _), _, _, rfl, ⟨x1, k1, rfl, hk1, hx1⟩, ⟨x2, k2, rfl, hk2, hx2⟩⟩
    · obtain ⟨x, y, e1, hx, hy⟩ := hK.get 8 11 (by kernel_rfl) rfl rfl (by kernel_rfl)
      have e2 : a1.eval (.tmp 2) = .pointer (some ⟨R2, 0, none⟩) := (hK.old 2 (by kernel_rfl)).trans rfl
      obtain ⟨z1, z2, hz⟩ := hC.row
      obtain ⟨x1, k1, rfl, hk1, hx1⟩ := hx
      obtain ⟨x2, k2, rfl, hk2, hx2⟩ := hy
      exact ob_put_row 67 (.tmp 2) (.tmp 11) rfl R2 e2 (.agg #[.slice x1 N k1, .slice x2 M k2]) e1 #[.slice x1 N k1, .slice x2 M k2] rfl 67 #[z1, z2] #[.slice x1 N k1, .slice x2 M k2] hz (by kernel_rfl) (by kernel_rfl) (by kernel_rfl) (by kernel_rfl) (fun w' g1 o1 => ⟨_, rfl, ⟨hC.out.trans o1, _, _, g1⟩, ⟨o1, fun _ => ⟨_, _, g1, CpA.out ⟨x1, k1, rfl, hk1, hx1⟩ lS o1, CpB.out ⟨x2, k2, rfl, hk2, hx2⟩ lS o1⟩⟩, _, _, g1, CpA.out ⟨x1, k1, rfl, hk1, hx1⟩ lS o1, CpB.out ⟨x2, k2, rfl, hk2, hx2⟩ lS o1⟩)
  · intro vs W hC hT
    obtain ⟨x, y, hg, ⟨x1, k1, rfl, hk1, lo1, hi1, a1, a2, a3, a4⟩, x2, k2, rfl, hk2, lo2, hi2, b1, b2, b3, b4⟩ : CpG u R2 N M r q W := hT 9 (by decide)
    have HB := Lib.hid (hC.out.below HB2.out gR2 HB2.out.size)
    clear hT
    simp only [fillL, if_true, Act.put, List.setIfInBounds_toArray, List.set_cons_zero, List.set_cons_succ]
    go_wp2_with fail
    exact bodyPost_ret (results_cell_row (p := 2) (ty := 67) (by kernel_rfl) _ _ (R2) 67 _ (0, 0) _ rfl hg Try.underlying67 rfl (by kernel_rfl)) rfl ⟨x1, k1, x2, k2, rfl, hk1, hk2, PkNew.of_two a4 b4 ⟨Nat.le_trans (by rw [← hu]; exact HB2.out.size) a1, a2, a3⟩ ⟨Nat.le_trans (by rw [← hu]; exact HB2.out.size) b1, b2, b3⟩, HB.out⟩
end Go.Proofs.Ytdhmcepnmbchkaa
