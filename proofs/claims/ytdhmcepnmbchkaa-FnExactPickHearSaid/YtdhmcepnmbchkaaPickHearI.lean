/- What is heard of one more: the program's PickHear. Nothing that was there is written. -/
import Derived.Test.YtdhmcepnmbchkaaPickHear
import Derived.Test.YtdhmcepnmbchkaaPickPlace
import Derived.Test.YtdhmcepnmbchkaaInsertRs
namespace Go.Proofs.Ytdhmcepnmbchkaa
open Go.RowKit
set_option linter.unusedVariables false

section
variable {P : Program} {ops : Array Oper} {rest : List Oper} {o : Oper} {a : Act} {w : World} {Q : Exit → Act → World → Prop}
theorem wpList_lit1_row {size : Nat} (hgd : o.guard = none) (t : TypeId) (y : Operand) (ho : o.op = .buildSlice t 1 #[(0, y)]) (e : TypeId) (i : TypeInfo) (ht : P.underlying t = some (.slice e)) (hi : P.info? e = some i)
    (z : Value) (hz : i.zero = some z) (hsize : i.size = size) (cs : List Value) (v : Value) (hy : a.eval y = v) (hv : v.cells = cs.toArray) (hc : cs.length = size) (hzs : z.cells.size = size) (hsz : 0 < size) (hmax : size ≤ 16777216)
    (h : ∀ w' g, w.heap.size = g → w'.heap[g]? = some (.cells cs.toArray e (0, 0)) → Below w.heap.size w w' → wpList P ops Q rest (a.put o.dst (.slice (some ⟨g, 0, none⟩) 1 1)) w') : wpList P ops Q (o :: rest) a w :=
  wpList_plain hgd fun K hK => by
    have hh := heap_alloc_new w (.cells cs.toArray e)
    have := hK _ _ (h (w.alloc (.cells cs.toArray e)) _ rfl hh ((Below.refl _ _).alloc (Nat.le_refl _) _))
    unfold Oper.wp execOp
    simp [ho, Instr.buildSlice, run_underlying ht, sizeOf, typeInfo, hi, hz, zeroValue, Instr.fill, newRow, -run_newObj, Result.andThen_ok, hy, hv, hc, hsize, show ¬ 16777216 < size by omega, show ¬ size = 0 by omega]
    rw [fold_set _ _ 0 (by simp [hc])]
    simp [-run_newObj]
    exact this
end
theorem PkOwn.solid {lo hi : Nat} {w : World} {a : Option Addr} {v : Value} {r : List Int} {q : List Hd} (k : PkOwn lo hi w a v r q) : Solid lo hi (fun W => PkOwn lo hi W a v r q) w := by
  obtain ⟨l1, h1, l2, h2, q1, q2, q3, k1, k2⟩ := k
  intro W' hs hk
  exact ⟨l1, h1, l2, h2, q1, q2, q3, k1.solid W' hs (fun k a b => hk k (by omega) (by omega)), k2.solid W' hs (fun k a b => hk k (by omega) (by omega))⟩
/-- What a whole item's store leaves. -/
theorem row_set_all {α : Type} {c : α → List Value} {s : Nat} (hs : ∀ x, (c x).length = s) {row : Array Value} {o k : Nat} {l : List α} {x' : α} (hk : k < l.length) (hsz : o + l.length * s ≤ row.size)
    (hc : ∀ (i : Nat) x, l[i]? = some x → ∀ (m : Nat) u, (c x)[m]? = some u → row[o + i * s + m]? = some u) :
    ∀ (i : Nat) x, (l.set k x')[i]? = some x → ∀ (m : Nat) u, (c x)[m]? = some u → (setAll row (o + k * s) (c x'))[o + i * s + m]? = some u := by
  intro i x hi m u hu
  have hms : m < s := by rw [← hs x]; exact (List.getElem?_eq_some_iff.1 hu).1
  have h1 : k * s + s ≤ l.length * s := by rw [← Nat.succ_mul]; exact Nat.mul_le_mul_right s hk
  by_cases hik : k = i
  · subst hik
    rw [List.getElem?_set_self hk] at hi
    obtain rfl := Option.some.inj hi
    exact setAll_at (c x') row (o + k * s) m u (by rw [hs]; omega) hu
  · rw [List.getElem?_set_ne hik] at hi
    have hne : o + i * s + m < o + k * s ∨ o + k * s + s ≤ o + i * s + m := by
      rcases Nat.lt_or_gt_of_ne hik with h | h
      · right
        have : k * s + s ≤ i * s := by rw [← Nat.succ_mul]; exact Nat.mul_le_mul_right s h
        omega
      · left
        have : i * s + s ≤ k * s := by rw [← Nat.succ_mul]; exact Nat.mul_le_mul_right s h
        omega
    rw [setAll_off _ _ _ _ (by rw [hs]; exact hne)]
    exact hc i x hi m u hu
theorem putH_set {q : List Hd} {s n : Int} {k : Nat} (hk : k = cntI (hdS q) s) (h : (hdS q)[k]? = some s) : putH q s n = q.set k ⟨s, n, 0⟩ := by
  have hl : k < q.length := by have := (List.getElem?_eq_some_iff.1 h).1; rwa [hdS_length] at this
  rw [putH_form hk (show k + 1 = _ by rw [if_pos h]), List.set_eq_take_append_cons_drop, if_pos hl]
set_option maxRecDepth 100000 in
set_option maxHeartbeats 8000000 in
theorem implPickHear_any (a b : Option Addr) (c d : Nat) (r : List Int) (q : List Hd) (src n : Int) (w : World) (h1 : NumsIn w a r) (h2 : RsIn hdL 3 w b q) (hr : r.length ≤ 1048576) (hq : q.length ≤ 1048576) (hrc : r.length ≤ c) :
    Calls Try.prog 47 #[.agg #[.slice a r.length c, .slice b q.length d], .int .i64 src, .int .i64 n] w (PkOut r (hearH r q src n) w) := by
  have HPR := fun W h1 h2 => Lib.hid (implPickerRight_any a b c d r q W h1 h2 (by unfold maxLen; omega) (by unfold maxLen; omega) hrc)
  have HCo := fun W h1 => Lib.hid (contains_any a c r src W h1 (by unfold maxLen; omega))
  have HFp := fun W h1 h2 => Lib.hid (freshPicker_any a b c d r q W h1 h2 hr hq)
  obtain ⟨V, hV⟩ : ∃ V, pkB r q = V := ⟨_, rfl⟩
  obtain ⟨mem, hmem⟩ : ∃ m, decide (src ∈ r) = m := ⟨_, rfl⟩
  rw [hmem] at HCo
  have HMb := Lib.hid (show mayB r q src n = (V && (mem && inB (-2147483648) 2147483647 n)) by unfold mayB; rw [hV, hmem])
  have HGd := Lib.hid (show V = true → ∀ i, i < q.length → heardAt r q i = true from fun h => (pkB_of (hV.trans h)).2.2)
  have HQ5 := Lib.hid (show V = true → q.length ≤ 5 from fun h => pkB_len (hV.trans h))
  have HNo := Lib.hid (show mayB r q src n = false → q = hearH r q src n from fun h => by unfold hearH; rw [h]; rfl)
  have HYes := Lib.hid (show mayB r q src n = true → putH q src n = hearH r q src n from fun h => by unfold hearH; rw [if_pos h])
  rw [hV] at HPR
  generalize mayB r q src n = MB at *
  generalize hearH r q src n = TV at *
  clear hmem hV
  have HI := Lib.hid h1
  have HJ := Lib.hid h2
  clear h1 h2 hrc
  obtain ⟨N, hN⟩ : ∃ N, r.length = N := ⟨_, rfl⟩
  obtain ⟨M, hM⟩ : ∃ M, q.length = M := ⟨_, rfl⟩
  have HN := Lib.hid hN
  have HM := Lib.hid hM
  rw [hN] at hr HPR HCo HFp
  rw [hM] at hq HPR HFp
  rw [show (.slice a r.length c : Value) = .slice a N c by rw [hN], show (.slice b q.length d : Value) = .slice b M d by rw [hM]]
  clear hN hM
  go_enter Try.func47, Try.ntmps47
  go_wp2_with (first
    | ((with_reducible refine @id (wpList _ _ _ (Oper.mk _ (Op.box 67 (.tmp 0)) _ _ _ _ :: _) _ _) ?_); refine wpList_box_h rfl 67 (.tmp 0) rfl #[.slice a N c, .slice b M d] rfl ?_; intro w1 R1 e1 g1 b1; have HL1 := Lib.hid (show Lg w w1 [(R1, #[.slice a N c, .slice b M d], 67)] [] from (Lg.first w).box e1 g1 b1); clear g1 b1 e1)
    | ((with_reducible refine @id (wpList _ _ _ (Oper.mk _ (Op.alloc 67) _ _ _ _ :: _) _ _) ?_); refine wpList_alloc_h rfl 67 rfl (.agg #[.slice none 0 0, .slice none 0 0]) (by kernel_rfl) #[.slice none 0 0, .slice none 0 0] rfl ?_; intro w2 R2 e2 g2 b2; have qR2_R1 : R1 < R2 := Nat.lt_of_lt_of_eq (HL1.out.lt (.head _)) e2; have HL2 := Lib.hid (show Lg w w2 [(R2, #[.slice none 0 0, .slice none 0 0], 67), (R1, #[.slice a N c, .slice b M d], 67)] [] from HL1.out.box e2 g2 b2); clear g2 b2 e2)
    | ((with_reducible refine @id (wpList _ _ _ (Oper.mk _ (Op.load 67 (.tmp 3)) _ _ _ _ :: _) _ _) ?_); refine wpList_load_at rfl 67 (.tmp 3) rfl (R1) 0 rfl 67 #[.slice a N c, .slice b M d] (0, 0) (HL2.out.get (.tail _ (.head _))) [.slice a N c, .slice b M d] rfl _ Try.underlying67 rfl (by kernel_rfl) ?_))
  refine ((HFp _ (HI.out.kept HL2.out.below) (HJ.out.kept HL2.out.below)).out).mono ?_
  rintro e w3 ⟨a3, c3, v3, rfl, hc1, hn, h⟩
  obtain ⟨L3, e3⟩ : ∃ x, w2.heap.size = x := ⟨_, rfl⟩
  obtain ⟨H3, f3⟩ : ∃ x, w3.heap.size = x := ⟨_, rfl⟩
  have qL3_R2 : R2 < L3 := Nat.lt_of_lt_of_eq (HL2.out.lt (.head _)) e3
  have qL3_R1 : R1 < L3 := Nat.lt_of_lt_of_eq (HL2.out.lt (.tail _ (.head _))) e3
  have qH3_L3 : L3 ≤ H3 := (by rw [← e3, ← f3]; exact h.size)
  have HL3 := Lib.hid (show Lg w w3 [(R2, #[.slice none 0 0, .slice none 0 0], 67), (R1, #[.slice a N c, .slice b M d], 67)] [(L3, H3, fun W => PkOwn L3 H3 W a3 v3 r q)] from HL2.out.made e3 f3 h (by rw [← e3, ← f3]; exact hn.solid))
  obtain ⟨b3, d3, rfl, hd1, -⟩ := hn.new
  rw [HM.out] at hd1
  have Hd1 := Lib.hid hd1
  clear hn hd1
  clear h hc1 e3 f3
  rw [HM.out]
  go_wp2_with (first
    | ((with_reducible refine @id (wpList _ _ _ (Oper.mk _ (Op.alloc 67) _ _ _ _ :: _) _ _) ?_); refine wpList_alloc_h rfl 67 rfl (.agg #[.slice none 0 0, .slice none 0 0]) (by kernel_rfl) #[.slice none 0 0, .slice none 0 0] rfl ?_; intro w4 R4 e4 g4 b4; have qR4_R2 : R2 < R4 := Nat.lt_of_lt_of_eq (HL3.out.lt (.head _)) e4; have qR4_R1 : R1 < R4 := Nat.lt_of_lt_of_eq (HL3.out.lt (.tail _ (.head _))) e4; have qR4_H3 : H3 ≤ R4 := Nat.le_trans (HL3.out.hi (.head _)).2 (Nat.le_of_eq e4); have HL4 := Lib.hid (show Lg w w4 [(R4, #[.slice none 0 0, .slice none 0 0], 67), (R2, #[.slice none 0 0, .slice none 0 0], 67), (R1, #[.slice a N c, .slice b M d], 67)] [(L3, H3, fun W => PkOwn L3 H3 W a3 (.slice b3 q.length d3) r q)] from HL3.out.box e4 g4 b4); clear g4 b4 e4)
    | ((with_reducible refine @id (wpList _ _ _ (Oper.mk _ (Op.store 67 (.tmp 7) (.tmp 12)) _ _ _ _ :: _) _ _) ?_); refine wpList_put_at rfl 67 (.tmp 7) (.tmp 12) rfl rfl (R4) 0 rfl (.agg #[.slice a3 N c3, .slice b3 M d3]) rfl #[.slice a3 N c3, .slice b3 M d3] rfl 67 #[.slice none 0 0, .slice none 0 0] #[.slice a3 N c3, .slice b3 M d3] (HL4.out.get (.head _)) (by kernel_rfl) (by kernel_rfl) (by kernel_rfl) (by kernel_rfl) ?_; intro w5 g5 o5; have HL5 := Lib.hid (show Lg w w5 [(R4, #[.slice a3 N c3, .slice b3 M d3], 67), (R2, #[.slice none 0 0, .slice none 0 0], 67), (R1, #[.slice a N c, .slice b M d], 67)] [(L3, H3, fun W => PkOwn L3 H3 W a3 (.slice b3 q.length d3) r q)] from HL4.out.put 0 rfl g5 o5 (List.forall_mem_cons.2 ⟨Nat.ne_of_lt qR4_R2, (List.forall_mem_cons.2 ⟨Nat.ne_of_lt qR4_R1, (fun _ h => nomatch h)⟩)⟩) (List.forall_mem_cons.2 ⟨.inl qR4_H3, (fun _ h => nomatch h)⟩) rfl); clear g5 o5)
    | ((with_reducible refine @id (wpList _ _ _ (Oper.mk _ (Op.load 67 (.tmp 3)) _ _ _ _ :: _) _ _) ?_); refine wpList_load_at rfl 67 (.tmp 3) rfl (R1) 0 rfl 67 #[.slice a N c, .slice b M d] (0, 0) (HL5.out.get (.tail _ (.tail _ (.head _)))) [.slice a N c, .slice b M d] rfl _ Try.underlying67 rfl (by kernel_rfl) ?_))
  refine ((HPR _ (HI.out.kept HL5.out.below) (HJ.out.kept HL5.out.below)).out).mono ?_
  rintro e w6 ⟨rfl, h⟩
  have HL6 := Lib.hid (show Lg w w6 [(R4, #[.slice a3 N c3, .slice b3 M d3], 67), (R2, #[.slice none 0 0, .slice none 0 0], 67), (R1, #[.slice a N c, .slice b M d], 67)] [(L3, H3, fun W => PkOwn L3 H3 W a3 (.slice b3 q.length d3) r q)] from HL5.out.kept h)
  clear h
  have hcx : True := True.intro
  rcases V with _ | _
  · skip
    have ht := HNo.out (by rw [HMb.out]; first | rfl | simp [hcx])
    subst ht
    go_wp2_with (first
      | ((with_reducible refine @id (wpList _ _ _ (Oper.mk _ (Op.load 67 (.tmp 7)) _ _ _ _ :: _) _ _) ?_); refine wpList_load_at rfl 67 (.tmp 7) rfl (R4) 0 rfl 67 #[.slice a3 N c3, .slice b3 M d3] (0, 0) (HL6.out.get (.head _)) [.slice a3 N c3, .slice b3 M d3] rfl _ Try.underlying67 rfl (by kernel_rfl) ?_)
      | ((with_reducible refine @id (wpList _ _ _ (Oper.mk _ (Op.store 67 (.tmp 6) (.tmp 28)) _ _ _ _ :: _) _ _) ?_); refine wpList_put_at rfl 67 (.tmp 6) (.tmp 28) rfl rfl (R2) 0 rfl (.agg #[.slice a3 N c3, .slice b3 M d3]) rfl #[.slice a3 N c3, .slice b3 M d3] rfl 67 #[.slice none 0 0, .slice none 0 0] #[.slice a3 N c3, .slice b3 M d3] (HL6.out.get (.tail _ (.head _))) (by kernel_rfl) (by kernel_rfl) (by kernel_rfl) (by kernel_rfl) ?_; intro w7 g7 o7; have HL7 := Lib.hid (show Lg w w7 [(R4, #[.slice a3 N c3, .slice b3 M d3], 67), (R2, #[.slice a3 N c3, .slice b3 M d3], 67), (R1, #[.slice a N c, .slice b M d], 67)] [(L3, H3, fun W => PkOwn L3 H3 W a3 (.slice b3 q.length d3) r q)] from HL6.out.put 1 rfl g7 o7 (List.forall_mem_cons.2 ⟨Nat.ne_of_gt qR4_R2, (List.forall_mem_cons.2 ⟨Nat.ne_of_lt qR2_R1, (fun _ h => nomatch h)⟩)⟩) (List.forall_mem_cons.2 ⟨.inr qL3_R2, (fun _ h => nomatch h)⟩) rfl); clear g7 o7))
    obtain ⟨bz, dz, ez, _, hz⟩ := (HL7.out.at (.head _)).new
    simp only [Value.slice.injEq, true_and] at ez
    obtain ⟨rfl, rfl⟩ := ez
    exact bodyPost_ret (results_cell_row (p := 6) (ty := 67) (by kernel_rfl) _ _ (R2) 67 _ (0, 0) _ rfl (HL7.out.get (.tail _ (.head _))) Try.underlying67 rfl (by kernel_rfl)) rfl (PkOut.mk HN.out HM.out (hz.wide (HL7.out.lo (.head _)) (HL7.out.hi (.head _)).2) HL7.out.below)
  go_wp2_with (first
    | ((with_reducible refine @id (wpList _ _ _ (Oper.mk _ (Op.load 25 (.tmp 17)) _ _ _ _ :: _) _ _) ?_); refine wpList_load_one (by kernel_rfl) 25 (.tmp 17) rfl (R1) 0 rfl 67 #[.slice a N c, .slice b M d] (0, 0) (HL6.out.get (.tail _ (.tail _ (.head _)))) (.slice a N c) rfl _ Try.underlying25 rfl (by kernel_rfl) ?_))
  refine (HCo _ (HI.out.kept HL6.out.below)).out.mono ?_
  rcases mem with _ | _
  · rintro e w' ⟨rfl, rfl⟩
    have ht := HNo.out (by rw [HMb.out]; first | rfl | simp [hcx])
    subst ht
    go_wp2_with (first
      | ((with_reducible refine @id (wpList _ _ _ (Oper.mk _ (Op.load 67 (.tmp 7)) _ _ _ _ :: _) _ _) ?_); refine wpList_load_at rfl 67 (.tmp 7) rfl (R4) 0 rfl 67 #[.slice a3 N c3, .slice b3 M d3] (0, 0) (HL6.out.get (.head _)) [.slice a3 N c3, .slice b3 M d3] rfl _ Try.underlying67 rfl (by kernel_rfl) ?_)
      | ((with_reducible refine @id (wpList _ _ _ (Oper.mk _ (Op.store 67 (.tmp 6) (.tmp 28)) _ _ _ _ :: _) _ _) ?_); refine wpList_put_at rfl 67 (.tmp 6) (.tmp 28) rfl rfl (R2) 0 rfl (.agg #[.slice a3 N c3, .slice b3 M d3]) rfl #[.slice a3 N c3, .slice b3 M d3] rfl 67 #[.slice none 0 0, .slice none 0 0] #[.slice a3 N c3, .slice b3 M d3] (HL6.out.get (.tail _ (.head _))) (by kernel_rfl) (by kernel_rfl) (by kernel_rfl) (by kernel_rfl) ?_; intro w7 g7 o7; have HL7 := Lib.hid (show Lg w w7 [(R4, #[.slice a3 N c3, .slice b3 M d3], 67), (R2, #[.slice a3 N c3, .slice b3 M d3], 67), (R1, #[.slice a N c, .slice b M d], 67)] [(L3, H3, fun W => PkOwn L3 H3 W a3 (.slice b3 q.length d3) r q)] from HL6.out.put 1 rfl g7 o7 (List.forall_mem_cons.2 ⟨Nat.ne_of_gt qR4_R2, (List.forall_mem_cons.2 ⟨Nat.ne_of_lt qR2_R1, (fun _ h => nomatch h)⟩)⟩) (List.forall_mem_cons.2 ⟨.inr qL3_R2, (fun _ h => nomatch h)⟩) rfl); clear g7 o7))
    obtain ⟨bz, dz, ez, _, hz⟩ := (HL7.out.at (.head _)).new
    simp only [Value.slice.injEq, true_and] at ez
    obtain ⟨rfl, rfl⟩ := ez
    exact bodyPost_ret (results_cell_row (p := 6) (ty := 67) (by kernel_rfl) _ _ (R2) 67 _ (0, 0) _ rfl (HL7.out.get (.tail _ (.head _))) Try.underlying67 rfl (by kernel_rfl)) rfl (PkOut.mk HN.out HM.out (hz.wide (HL7.out.lo (.head _)) (HL7.out.hi (.head _)).2) HL7.out.below)
  rintro e w' ⟨rfl, rfl⟩
  clear hcx
  go_wp2_with fail
  refine (mayBeTold_any n _).mono ?_
  rcases hcx : inB (-2147483648) 2147483647 n
  · rintro e w' ⟨rfl, rfl⟩
    have ht := HNo.out (by rw [HMb.out]; first | rfl | simp [hcx])
    subst ht
    go_wp2_with (first
      | ((with_reducible refine @id (wpList _ _ _ (Oper.mk _ (Op.load 67 (.tmp 7)) _ _ _ _ :: _) _ _) ?_); refine wpList_load_at rfl 67 (.tmp 7) rfl (R4) 0 rfl 67 #[.slice a3 N c3, .slice b3 M d3] (0, 0) (HL6.out.get (.head _)) [.slice a3 N c3, .slice b3 M d3] rfl _ Try.underlying67 rfl (by kernel_rfl) ?_)
      | ((with_reducible refine @id (wpList _ _ _ (Oper.mk _ (Op.store 67 (.tmp 6) (.tmp 28)) _ _ _ _ :: _) _ _) ?_); refine wpList_put_at rfl 67 (.tmp 6) (.tmp 28) rfl rfl (R2) 0 rfl (.agg #[.slice a3 N c3, .slice b3 M d3]) rfl #[.slice a3 N c3, .slice b3 M d3] rfl 67 #[.slice none 0 0, .slice none 0 0] #[.slice a3 N c3, .slice b3 M d3] (HL6.out.get (.tail _ (.head _))) (by kernel_rfl) (by kernel_rfl) (by kernel_rfl) (by kernel_rfl) ?_; intro w7 g7 o7; have HL7 := Lib.hid (show Lg w w7 [(R4, #[.slice a3 N c3, .slice b3 M d3], 67), (R2, #[.slice a3 N c3, .slice b3 M d3], 67), (R1, #[.slice a N c, .slice b M d], 67)] [(L3, H3, fun W => PkOwn L3 H3 W a3 (.slice b3 q.length d3) r q)] from HL6.out.put 1 rfl g7 o7 (List.forall_mem_cons.2 ⟨Nat.ne_of_gt qR4_R2, (List.forall_mem_cons.2 ⟨Nat.ne_of_lt qR2_R1, (fun _ h => nomatch h)⟩)⟩) (List.forall_mem_cons.2 ⟨.inr qL3_R2, (fun _ h => nomatch h)⟩) rfl); clear g7 o7))
    obtain ⟨bz, dz, ez, _, hz⟩ := (HL7.out.at (.head _)).new
    simp only [Value.slice.injEq, true_and] at ez
    obtain ⟨rfl, rfl⟩ := ez
    exact bodyPost_ret (results_cell_row (p := 6) (ty := 67) (by kernel_rfl) _ _ (R2) 67 _ (0, 0) _ rfl (HL7.out.get (.tail _ (.head _))) Try.underlying67 rfl (by kernel_rfl)) rfl (PkOut.mk HN.out HM.out (hz.wide (HL7.out.lo (.head _)) (HL7.out.hi (.head _)).2) HL7.out.below)
  rintro e w' ⟨rfl, rfl⟩
  have ht := HYes.out (by rw [HMb.out, hcx]; rfl)
  subst ht
  have HGa := Lib.hid (HGd.out (by trivial))
  have hM5 : M ≤ 5 := by have := HQ5.out (by trivial); have := HM.out; omega
  have HPl := fun W b d h => Lib.hid (placeOf_any b d q src W h (by have := HM.out; omega) (fun i j h1 h2 => heard_lt HGa.out j h2 i h1))
  rw [HM.out] at HPl
  obtain ⟨K, hK⟩ : ∃ K, cntI (hdS q) src = K := ⟨_, rfl⟩
  have HKl := Lib.hid (show K ≤ q.length from by rw [← hK, ← hdS_length]; exact cntI_le _ _)
  have HKe := Lib.hid hK.symm
  obtain ⟨there, hth⟩ : ∃ t, decide ((hdS q)[K]? = some src) = t := ⟨_, rfl⟩
  have HTh := Lib.hid hth
  rw [hK, hth] at HPl
  clear HGd HYes HNo HMb HPR HCo HFp HQ5 hcx hK hth
  go_wp2_with (first
    | ((with_reducible refine @id (wpList _ _ _ (Oper.mk _ (Op.alloc 112) _ _ _ _ :: _) _ _) ?_); refine wpList_alloc_h rfl 112 rfl (.agg #[.int .i64 0, .int .i64 0, .int .i64 0]) (by kernel_rfl) #[.int .i64 0, .int .i64 0, .int .i64 0] rfl ?_; intro w7 R7 e7 g7 b7; have qR7_R4 : R4 < R7 := Nat.lt_of_lt_of_eq (HL6.out.lt (.head _)) e7; have qR7_R2 : R2 < R7 := Nat.lt_of_lt_of_eq (HL6.out.lt (.tail _ (.head _))) e7; have qR7_R1 : R1 < R7 := Nat.lt_of_lt_of_eq (HL6.out.lt (.tail _ (.tail _ (.head _)))) e7; have qR7_H3 : H3 ≤ R7 := Nat.le_trans (HL6.out.hi (.head _)).2 (Nat.le_of_eq e7); have HL7 := Lib.hid (show Lg w w7 [(R7, #[.int .i64 0, .int .i64 0, .int .i64 0], 112), (R4, #[.slice a3 N c3, .slice b3 M d3], 67), (R2, #[.slice none 0 0, .slice none 0 0], 67), (R1, #[.slice a N c, .slice b M d], 67)] [(L3, H3, fun W => PkOwn L3 H3 W a3 (.slice b3 q.length d3) r q)] from HL6.out.box e7 g7 b7); clear g7 b7 e7)
    | ((with_reducible refine @id (wpList _ _ _ (Oper.mk _ (Op.store 112 (.tmp 8) (.tmp 31)) _ _ _ _ :: _) _ _) ?_); refine wpList_put_at rfl 112 (.tmp 8) (.tmp 31) rfl rfl (R7) 0 rfl (.agg #[.int .i64 src, .int .i64 n, .int .i64 0]) rfl #[.int .i64 src, .int .i64 n, .int .i64 0] rfl 112 #[.int .i64 0, .int .i64 0, .int .i64 0] #[.int .i64 src, .int .i64 n, .int .i64 0] (HL7.out.get (.head _)) (by kernel_rfl) (by kernel_rfl) (by kernel_rfl) (by kernel_rfl) ?_; intro w8 g8 o8; have HL8 := Lib.hid (show Lg w w8 [(R7, #[.int .i64 src, .int .i64 n, .int .i64 0], 112), (R4, #[.slice a3 N c3, .slice b3 M d3], 67), (R2, #[.slice none 0 0, .slice none 0 0], 67), (R1, #[.slice a N c, .slice b M d], 67)] [(L3, H3, fun W => PkOwn L3 H3 W a3 (.slice b3 q.length d3) r q)] from HL7.out.put 0 rfl g8 o8 (List.forall_mem_cons.2 ⟨Nat.ne_of_lt qR7_R4, (List.forall_mem_cons.2 ⟨Nat.ne_of_lt qR7_R2, (List.forall_mem_cons.2 ⟨Nat.ne_of_lt qR7_R1, (fun _ h => nomatch h)⟩)⟩)⟩) (List.forall_mem_cons.2 ⟨.inl qR7_H3, (fun _ h => nomatch h)⟩) rfl); clear g8 o8)
    | ((with_reducible refine @id (wpList _ _ _ (Oper.mk _ (Op.load 65 (.tmp 33)) _ _ _ _ :: _) _ _) ?_); refine wpList_load_one rfl 65 (.tmp 33) rfl (R4) 1 rfl 67 #[.slice a3 N c3, .slice b3 M d3] (0, 0) (HL8.out.get (.tail _ (.head _))) (.slice b3 M d3) rfl _ Try.underlying65 rfl (by kernel_rfl) ?_))
  have HIn := Lib.hid (show RsIn hdL 3 w8 b3 q from by
    obtain ⟨bz, dz, ez, _, hz⟩ := (HL8.out.at (.head _)).new
    simp only [Value.slice.injEq, true_and] at ez
    obtain ⟨rfl, rfl⟩ := ez
    exact hz.ins)
  refine ((HPl _ b3 d3 HIn.out).out).mono ?_
  rintro e w9 ⟨rfl, h⟩
  have HL9 := Lib.hid (show Lg w w9 [(R7, #[.int .i64 src, .int .i64 n, .int .i64 0], 112), (R4, #[.slice a3 N c3, .slice b3 M d3], 67), (R2, #[.slice none 0 0, .slice none 0 0], 67), (R1, #[.slice a N c, .slice b M d], 67)] [(L3, H3, fun W => PkOwn L3 H3 W a3 (.slice b3 q.length d3) r q)] from HL8.out.kept h)
  clear h
  have hK0 : (0 : Int) ≤ (K : Int) := by omega
  rcases there with _ | _
  · have HPu := Lib.hid (show q.take K ++ ⟨src, n, 0⟩ :: q.drop K = putH q src n from (putH_form HKe.out (show K = _ by rw [if_neg (of_decide_eq_false HTh.out)])).symm)
    obtain ⟨j0, hj, hy0, hy1, hy2⟩ := info_parts Copy.infoH
    have HY := Lib.hid (And.intro hj (And.intro hy0 (And.intro hy1 hy2)))
    clear hj hy0 hy1 hy2
    go_wp2_with (first
      | ((with_reducible refine @id (wpList _ _ _ (Oper.mk _ (Op.load 65 (.tmp 45)) _ _ _ _ :: _) _ _) ?_); refine wpList_load_one rfl 65 (.tmp 45) rfl (R4) 1 rfl 67 #[.slice a3 N c3, .slice b3 M d3] (0, 0) (HL9.out.get (.tail _ (.head _))) (.slice b3 M d3) rfl _ Try.underlying65 rfl (by kernel_rfl) ?_)
      | ((with_reducible refine @id (wpList _ _ _ (Oper.mk _ (Op.load 112 (.tmp 8)) _ _ _ _ :: _) _ _) ?_); refine wpList_load_at rfl 112 (.tmp 8) rfl (R7) 0 rfl 112 #[.int .i64 src, .int .i64 n, .int .i64 0] (0, 0) (HL9.out.get (.head _)) [.int .i64 src, .int .i64 n, .int .i64 0] rfl _ Try.underlying112 rfl (by kernel_rfl) ?_)
      | ((with_reducible refine @id (wpList _ _ _ _ _ _) ?_); refine wpList_lit1_row rfl 65 (.tmp 48) rfl 112 j0 Try.underlying65 HY.out.1 (.agg #[.int .i64 0, .int .i64 0, .int .i64 0]) HY.out.2.1 HY.out.2.2.1 (hdL ⟨src, n, 0⟩) (.agg #[.int .i64 src, .int .i64 n, .int .i64 0]) rfl rfl rfl rfl (by decide) (by decide) ?_; intro w10 G hg1 hinC hbC; have HG1 := Lib.hid hg1; have HIC := Lib.hid hinC; have HL10 := Lib.hid (show Lg w w10 [(R7, #[.int .i64 src, .int .i64 n, .int .i64 0], 112), (R4, #[.slice a3 N c3, .slice b3 M d3], 67), (R2, #[.slice none 0 0, .slice none 0 0], 67), (R1, #[.slice a N c, .slice b M d], 67)] [(L3, H3, fun W => PkOwn L3 H3 W a3 (.slice b3 q.length d3) r q)] from HL9.out.kept hbC); clear hinC hbC hg1))
    obtain ⟨l1, h1, l2, h2, y1, y2, y3, k1, k2⟩ := HL10.out.at (.head _)
    have hhi := (HL10.out.hi (.head _)).2
    have hGh : h2 ≤ G := by have := (HL9.out.hi (.head _)).2; have := HG1.out; omega
    have HNm := Lib.hid k1
    have HCI := Lib.hid (insert_h l2 h2 _ q K G ⟨src, n, 0⟩ _ k2 HIC.out (.inr hGh) HKl.out (by have := HM.out; omega) y2.2.1 (by omega))
    rw [HPu.out, HM.out] at HCI
    clear k1 k2
    refine HCI.out.mono ?_
    rintro e w9 ⟨a9, c9, l9, h9, rfl, hc9, hsp, hl9, hn9, ho9⟩
    have n1 := HL10.out.lo (.head _)
    have n2 := HL10.out.ge (.tail _ (.tail _ (.head _)))
    have n3 := HL10.out.ge (.tail _ (.head _))
    have n4 := HL10.out.lt (.tail _ (.head _))
    have n5 := HL10.out.lt (.tail _ (.tail _ (.head _)))
    have H7 := Lib.hid ((ho9.block R4 n4 (by omega)).trans (HL10.out.get (.tail _ (.head _))))
    have H2 := Lib.hid ((ho9.block R2 n5 (by omega)).trans (HL10.out.get (.tail _ (.tail _ (.head _)))))
    have HB9 := Lib.hid (ho9.below HL10.out.below (by omega) HL10.out.below.size)
    have HN9 := Lib.hid (HNm.out.out ho9 (by omega))
    have HV9 := Lib.hid hn9
    have HO9 := Lib.hid ho9
    have hl2 : l9 ≤ h9 := hl9
    have HSp := Lib.hid hsp
    have HSz := Lib.hid ho9.size
    have Hq1 := Lib.hid (And.intro y1 (And.intro y2 y3))
    clear hn9 ho9 hsp y1 y2 y3 hc9 HCI
    go_wp2_with (first
      | ((with_reducible refine @id (wpList _ _ _ (Oper.mk _ (Op.store 65 (.tmp 51) (.tmp 50)) _ _ _ _ :: _) _ _) ?_); refine wpList_put_at rfl 65 (.tmp 51) (.tmp 50) rfl rfl (R4) 1 rfl (.slice a9 (putH q src n).length c9) rfl #[.slice a9 (putH q src n).length c9] rfl 67 #[.slice a3 N c3, .slice b3 M d3] #[.slice a3 N c3, .slice a9 (putH q src n).length c9] H7.out (by kernel_rfl) (by kernel_rfl) (by kernel_rfl) (by kernel_rfl) ?_; intro wF gF oF; have HF7 := Lib.hid gF; have HF2 := Lib.hid ((oF.block R2 (Nat.lt_of_lt_of_le n5 HSz.out) (by omega)).trans H2.out); have HFO := Lib.hid oF; clear gF oF)
      | ((with_reducible refine @id (wpList _ _ _ (Oper.mk _ (Op.load 67 (.tmp 7)) _ _ _ _ :: _) _ _) ?_); refine wpList_load_at rfl 67 (.tmp 7) rfl (R4) 0 rfl 67 #[.slice a3 N c3, .slice a9 (putH q src n).length c9] (0, 0) HF7.out [.slice a3 N c3, .slice a9 (putH q src n).length c9] rfl _ Try.underlying67 rfl (by kernel_rfl) ?_)
      | ((with_reducible refine @id (wpList _ _ _ (Oper.mk _ (Op.store 67 (.tmp 6) (.tmp 52)) _ _ _ _ :: _) _ _) ?_); refine wpList_put_at rfl 67 (.tmp 6) (.tmp 52) rfl rfl (R2) 0 rfl (.agg #[.slice a3 N c3, .slice a9 (putH q src n).length c9]) rfl #[.slice a3 N c3, .slice a9 (putH q src n).length c9] rfl 67 #[.slice none 0 0, .slice none 0 0] #[.slice a3 N c3, .slice a9 (putH q src n).length c9] HF2.out (by kernel_rfl) (by kernel_rfl) (by kernel_rfl) (by kernel_rfl) ?_; intro wH gH oH; have HH2 := Lib.hid gH; have HHO := Lib.hid oH; clear gH oH))
    have z1 := HSz.out
    have z2 := HFO.out.size
    have z3 := HHO.out.size
    have z4 := HSp.out
    obtain ⟨y1, y2, y3⟩ := Hq1.out
    have n6 := (HL10.out.hi (.head _)).1
    have n7 : H3 ≤ R4 := qR4_H3
    have n8 : R2 < L3 := qL3_R2
    exact bodyPost_ret (results_cell_row (p := 6) (ty := 67) (by kernel_rfl) _ _ (R2) 67 _ (0, 0) _ rfl HH2.out Try.underlying67 rfl (by kernel_rfl)) rfl (PkOut.mk HN.out rfl ⟨l1, h1, l9, h9, by omega, by omega, by omega, (HN9.out.out HFO.out (by omega)).out HHO.out (by omega), (HV9.out.out HFO.out (by omega)).out HHO.out (by omega)⟩ (HHO.out.below (HFO.out.below HB9.out (by omega) HB9.out.size) (by omega) (Nat.le_trans HB9.out.size HFO.out.size)))
  · have hKM : K < q.length := by have := (List.getElem?_eq_some_iff.1 (of_decide_eq_true HTh.out)).1; rwa [hdS_length] at this
    have HPu := Lib.hid (putH_set (n := n) HKe.out (of_decide_eq_true HTh.out))
    have hK1 : (K : Int) < (M : Int) := by have := HM.out; omega
    obtain ⟨l1, h1, l2, h2, y1, y2, y3, k1, k2⟩ := HL9.out.at (.head _)
    obtain ⟨bz, dz, ez, _, hz⟩ := k2.new hdL_len
    simp only [Value.slice.injEq, true_and] at ez
    obtain ⟨rfl, rfl⟩ := ez
    rcases hz with hz | ⟨B, o, row, rfl, hB1, hB2, hg, hrs, hcs⟩
    · rw [hz] at hKM
      simp at hKM
    have HGB := Lib.hid hg
    have HRS := Lib.hid hrs
    have HCS := Lib.hid hcs
    have HNm := Lib.hid k1
    have lB := (Array.getElem?_eq_some_iff.1 hg).1
    have hhi := (HL9.out.hi (.head _)).2
    clear hg hrs hcs k1 k2
    have HG7 := Lib.hid (show h2 ≤ R4 ∧ R2 < l2 from ⟨Nat.le_trans y2.2.2 qR4_H3, Nat.lt_of_lt_of_le qL3_R2 y2.1⟩)
    go_wp2_with (first
      | ((with_reducible refine @id (wpList _ _ _ (Oper.mk _ (Op.load 65 (.tmp 40)) _ _ _ _ :: _) _ _) ?_); refine wpList_load_one rfl 65 (.tmp 40) rfl (R4) 1 rfl 67 #[.slice a3 N c3, .slice (some ⟨B, o, none⟩) M d3] (0, 0) (HL9.out.get (.tail _ (.head _))) (.slice (some ⟨B, o, none⟩) M d3) rfl _ Try.underlying65 rfl (by kernel_rfl) ?_)
      | ((with_reducible refine @id (wpList _ _ _ (Oper.mk _ (Op.load 112 (.tmp 8)) _ _ _ _ :: _) _ _) ?_); refine wpList_load_at rfl 112 (.tmp 8) rfl (R7) 0 rfl 112 #[.int .i64 src, .int .i64 n, .int .i64 0] (0, 0) (HL9.out.get (.head _)) [.int .i64 src, .int .i64 n, .int .i64 0] rfl _ Try.underlying112 rfl (by kernel_rfl) ?_)
      | ((with_reducible refine @id (wpList _ _ _ (Oper.mk _ (Op.store 112 (.tmp 44) (.tmp 43)) _ _ _ _ :: _) _ _) ?_); refine wpList_put_at rfl 112 (.tmp 44) (.tmp 43) rfl rfl B (o + K * 3) rfl (.agg #[.int .i64 src, .int .i64 n, .int .i64 0]) rfl (hdL ⟨src, n, 0⟩).toArray rfl 112 row _ HGB.out (by kernel_rfl) (Nat.ble_eq_true_of_le (by show o + K * 3 + 3 ≤ row.size; have := HRS.out; omega)) (by rfl) rfl ?_; intro w9 g9 o9; have HG9 := Lib.hid g9; have HO9 := Lib.hid o9; have H7 := Lib.hid ((o9.block R4 (HL9.out.lt (.tail _ (.head _))) (by have := HG7.out; omega)).trans (HL9.out.get (.tail _ (.head _)))); have H2 := Lib.hid ((o9.block R2 (HL9.out.lt (.tail _ (.tail _ (.head _)))) (by have := HG7.out; omega)).trans (HL9.out.get (.tail _ (.tail _ (.head _))))); clear g9 o9)
      | ((with_reducible refine @id (wpList _ _ _ (Oper.mk _ (Op.load 67 (.tmp 7)) _ _ _ _ :: _) _ _) ?_); refine wpList_load_at rfl 67 (.tmp 7) rfl (R4) 0 rfl 67 #[.slice a3 N c3, .slice (some ⟨B, o, none⟩) M d3] (0, 0) H7.out [.slice a3 N c3, .slice (some ⟨B, o, none⟩) M d3] rfl _ Try.underlying67 rfl (by kernel_rfl) ?_)
      | ((with_reducible refine @id (wpList _ _ _ (Oper.mk _ (Op.store 67 (.tmp 6) (.tmp 52)) _ _ _ _ :: _) _ _) ?_); refine wpList_put_at rfl 67 (.tmp 6) (.tmp 52) rfl rfl (R2) 0 rfl (.agg #[.slice a3 N c3, .slice (some ⟨B, o, none⟩) M d3]) rfl #[.slice a3 N c3, .slice (some ⟨B, o, none⟩) M d3] rfl 67 #[.slice none 0 0, .slice none 0 0] #[.slice a3 N c3, .slice (some ⟨B, o, none⟩) M d3] H2.out (by kernel_rfl) (by kernel_rfl) (by kernel_rfl) (by kernel_rfl) ?_; intro wH gH oH; have HH2 := Lib.hid gH; have HHO := Lib.hid oH; clear gH oH))
    have hrow := row_set_all (c := hdL) (x' := ⟨src, n, 0⟩) hdL_len hKM HRS.out HCS.out
    rw [← HPu.out] at hrow
    have hlen : (putH q src n).length = M := by rw [HPu.out, List.length_set, HM.out]
    have n1 := HL9.out.lo (.head _)
    have n2 := HL9.out.ge (.tail _ (.tail _ (.head _)))
    have z0 := HO9.out.size
    have z1 := HHO.out.size
    have g7 := HG7.out
    have hHv : RsNew hdL 3 112 l2 h2 w9 (some ⟨B, o, none⟩) (putH q src n) := .inr ⟨B, o, _, rfl, hB1, hB2, HG9.out, by rw [setAll_size, hlen, ← HM.out]; exact HRS.out, hrow⟩
    have n8 : R2 < L3 := qL3_R2
    exact bodyPost_ret (results_cell_row (p := 6) (ty := 67) (by kernel_rfl) _ _ (R2) 67 _ (0, 0) _ rfl HH2.out Try.underlying67 rfl (by kernel_rfl)) rfl (PkOut.mk HN.out hlen ⟨l1, h1, l2, h2, by omega, by omega, y3, (HNm.out.out HO9.out (by omega)).out HHO.out (by omega), hHv.out HHO.out (by omega)⟩ (HHO.out.below (HO9.out.below HL9.out.below (by omega) HL9.out.below.size) (by omega) (Nat.le_trans HL9.out.below.size HO9.out.size)))
end Go.Proofs.Ytdhmcepnmbchkaa
