/- Several texts in one, each with its own head: what is proved, and of what, stands there. -/
import Derived.Test.YtanijfmfjabmfaaTabBase
import Derived.Test.YtanijfmfjabmfaaBitsBack
import Derived.Test.YtanijfmfjabmfaaDrawValue
import Derived.Test.YtanijfmfjabmfaaDrawCan
/- What a group's bytes tell is right; the Values of a group come back from what they are written as. No program in it. -/
namespace Go.Proofs.Ytanijfmfjabmfaa
open Go.RowKit
set_option linter.unusedVariables false

theorem sign_ge {a w : Int} {m : Nat} {g : Bool} (hf : fieldB a w = true) (h : (m : Int) < powI w) : lowI a w g ≤ signI w g m := by
  obtain ⟨_, _, hw0, hw1⟩ := fieldB_of hf
  have h5 := powI_step hw0
  have h6 := powI_pos (w - 1)
  unfold lowI signI topI
  rw [hf]
  cases g
  · simp only [Bool.and_false, Bool.false_eq_true, if_false]
    split <;> omega
  · simp only [Bool.and_true, if_true]
    split <;> omega
/-- What a Field tells is right for it. -/
theorem fget_right {s : ByteArray} {a w : Nat} {g : Bool} (hs : ¬ 8000 < s.size) (hh : hasB s (a : Int) (w : Int) = true) : valB a w g (fgetI s a w g).1 (fgetI s a w g).2 = true := by
  have hf : fieldB (a : Int) (w : Int) = true := by
    unfold hasB at hh
    rw [Bool.and_eq_true] at hh
    exact hh.1
  rw [fget_on hs hh]
  have hN := numOf_powI (l := s.data.toList) (a := a) (w := w)
  obtain ⟨_, _, hw0, hw1⟩ := fieldB_of hf
  have h1 := sign_le (g := g) hw0 hw1 hN
  have h2 := sign_ge (a := (a : Int)) (g := g) hf hN
  generalize signI (w : Int) g ((numOf (bitL s.data.toList) a w : Nat) : Int) = T at *
  unfold meanI
  split
  · rename_i h
    unfold valB inB
    rw [hf]
    simp
    omega
  · split
    · rename_i h
      unfold valB inB
      rw [hf]
      simp
      omega
    · rename_i h3 h4
      rw [valB_num hf]
      unfold highI
      rw [hf]
      simp only [if_true]
      refine inB_yes h2 ?_
      split <;> omega
/-- What is put elsewhere turns nothing that a Field tells. -/
theorem fget_far {s : ByteArray} {a w b v : Nat} {g h : Bool} {k n : Int} (hs : ¬ 8000 < s.size) (hb : b + v ≤ 8 * s.size) (hd : a + w ≤ b ∨ b + v ≤ a) :
    fgetI ⟨(fputI s a w g k n).toArray⟩ b v h = fgetI s b v h := by
  have hz : (ByteArray.mk (fputI s a w g k n).toArray).size = s.size := (size_mk _).trans (fputI_len hs)
  unfold fgetI
  rw [hasB_size hz, hz, if_neg hs, if_neg hs]
  split
  · have hc : numOf (bitL (ByteArray.mk (fputI s a w g k n).toArray).data.toList) (b : Int).toNat (v : Int).toNat = numOf (bitL s.data.toList) (b : Int).toNat (v : Int).toNat := by
      simp only [Int.toNat_natCast]
      refine numOf_congr v b fun i h1 h2 => ?_
      show bitL (fputI s a w g k n).toArray.toList i = _
      rw [List.toList_toArray]
      unfold fputI
      rw [if_neg hs]
      split
      · rw [bitL_putB (putBit_lt _ _ _ _) (by omega)]
        unfold putBit
        rw [if_neg (by simp only [Int.toNat_natCast]; omega)]
      · rfl
    rw [hc]
  · rfl
/-- The Fields of a group stand one behind the other. -/
theorem defD_apart (p : Int) {i k : Nat} (hik : i < k) (hk : k < (defD p).fs.length) : (fdAt (defD p).fs i).a + (fdAt (defD p).fs i).w ≤ (fdAt (defD p).fs k).a := by
  have h := ixD_le p
  have h5 := defD_len p
  unfold defD at *
  generalize ixD p = j at *
  rcases j with _ | _ | _ | _ | _ | _ | _ | j
  all_goals first | omega | skip
  all_goals rcases k with _ | _ | _ | _ | _ | k
  all_goals first | omega | exact absurd hk (by decide) | skip
  all_goals rcases i with _ | _ | _ | _ | i
  all_goals first | omega | decide
theorem encTo_back {F : List Fd} {l : List Vl} {Z : Nat} (hZ : Z ≤ 100) (hin : ∀ i, i < F.length → ∃ a w : Nat, (fdAt F i).a = a ∧ (fdAt F i).w = w ∧ a ≤ 1800 ∧ 1 ≤ w ∧ w ≤ 32 ∧ ((a + w : Nat) : Int) ≤ 8 * (Z : Int))
    (hap : ∀ i k, i < k → k < F.length → (fdAt F i).a + (fdAt F i).w ≤ (fdAt F k).a) (hv : ∀ i, i < F.length → vrAt F l i = true) :
    ∀ k, k ≤ F.length → ∀ i, i < k → fgetI ⟨(encTo F l (fullL Z) k).toArray⟩ (fdAt F i).a (fdAt F i).w (fdAt F i).g = ((vlAt l i).k, (vlAt l i).v)
  | 0, _, i, hi => absurd hi (by omega)
  | k + 1, hk, i, hi => by
    have hz := enc_size (F := F) (l := l) hZ k
    obtain ⟨A, W, eA, eW, q1, q2, q3, q4⟩ := hin k (by omega)
    have hs : ¬ 8000 < (ByteArray.mk (encTo F l (fullL Z) k).toArray).size := by omega
    have hh : hasB ⟨(encTo F l (fullL Z) k).toArray⟩ (A : Int) (W : Int) = true := hasB_lit q1 q2 q3 (by omega)
    show fgetI ⟨(fputI ⟨(encTo F l (fullL Z) k).toArray⟩ (fdAt F k).a (fdAt F k).w (fdAt F k).g (vlAt l k).k (vlAt l k).v).toArray⟩ _ _ _ = _
    rcases Nat.lt_or_ge i k with h | h
    · obtain ⟨B, V, eB, eV, r1, r2, r3, r4⟩ := hin i (by omega)
      have ih := encTo_back hZ hin hap hv k (by omega) i h
      have ha := hap i k h (by omega)
      rw [eA, eB, eV] at ha
      rw [eA, eW, eB, eV]
      rw [eB, eV] at ih
      rw [fget_far hs (by omega) (.inr (by omega))]
      exact ih
    · obtain rfl : i = k := by omega
      have hvi := hv i (by omega)
      unfold vrAt at hvi
      rw [eA, eW] at hvi ⊢
      exact value_back hs hvi hh
theorem decF_at {s : ByteArray} {F : List Fd} {i : Nat} (h : i < F.length) : (decF s F)[i]? = some (tellF s (fdAt F i)) := by
  unfold decF
  rw [List.getElem?_map, fdAt_some h]
  rfl
/-- The Values come back. -/
theorem enc_dec {F : List Fd} {l : List Vl} {Z : Nat} (hZ : Z ≤ 100) (hin : ∀ i, i < F.length → ∃ a w : Nat, (fdAt F i).a = a ∧ (fdAt F i).w = w ∧ a ≤ 1800 ∧ 1 ≤ w ∧ w ≤ 32 ∧ ((a + w : Nat) : Int) ≤ 8 * (Z : Int))
    (hap : ∀ i k, i < k → k < F.length → (fdAt F i).a + (fdAt F i).w ≤ (fdAt F k).a) (hv : ∀ i, i < F.length → vrAt F l i = true) (hl : l.length = F.length) :
    decF ⟨(encTo F l (fullL Z) F.length).toArray⟩ F = l := by
  apply List.ext_getElem?
  intro i
  rcases Nat.lt_or_ge i F.length with h | h
  · rw [decF_at h, vlAt_some (by omega)]
    unfold tellF
    rw [encTo_back hZ hin hap hv F.length (Nat.le_refl _) i h]
  · rw [List.getElem?_eq_none (by rw [decF_len]; exact h), List.getElem?_eq_none (by omega)]
theorem vlAt_decF {s : ByteArray} {F : List Fd} {i : Nat} (h : i < F.length) : vlAt (decF s F) i = tellF s (fdAt F i) := by
  unfold vlAt
  rw [decF_at h]
  rfl
/-- What is told is right. -/
theorem dec_right (p : Int) (s : ByteArray) (h : decC (decide (ixD p < 6)) (defD p).s s = 0) : vrB p (decV (decide (ixD p < 6)) (defD p).s (defD p).fs s) = true := by
  unfold decV
  rw [if_pos h]
  have hin := @defD_in p
  have hS := defD_s p
  unfold decC at h
  split at h
  · omega
  rename_i hs
  split at h
  · rename_i hix
    have hix := of_decide_eq_true hix
    unfold vrB
    rw [decide_eq_true hix]
    refine vrF_yes (decF_len _ _) fun i hi => ?_
    obtain ⟨A, W, eA, eW, q1, q2, q3, q4⟩ := hin hi
    unfold vrAt
    rw [vlAt_decF hi]
    unfold tellF
    rw [eA, eW]
    have hz : (s.size : Int) = (defD p).s := by
      unfold sizeC at h
      split at h
      · omega
      · split at h <;> omega
    exact fget_right hs (hasB_lit q1 q2 q3 (by omega))
  · omega
/-- What is written is told again. -/
theorem enc_all (p : Int) (l : List Vl) (h : vrB p l = true) : ((⟨(encL p l).toArray⟩ : ByteArray).size : Int) = (defD p).s ∧ 0 < (encL p l).length ∧
    decC (decide (ixD p < 6)) (defD p).s ⟨(encL p l).toArray⟩ = 0 ∧ decV (decide (ixD p < 6)) (defD p).s (defD p).fs ⟨(encL p l).toArray⟩ = l := by
  obtain ⟨h1, h2, h3⟩ := vrF_of h
  have hix := of_decide_eq_true h1
  have hin := @defD_in p
  have hap := @defD_apart p
  have hS := (defD_s p).1 hix
  obtain ⟨Z, hZ, eZ⟩ : ∃ Z : Nat, (Z = 8 ∨ Z = 14) ∧ (defD p).s = (Z : Int) := by
    rcases hS with h | h
    · exact ⟨8, .inl rfl, h⟩
    · exact ⟨14, .inr rfl, h⟩
  have eE : encL p l = encTo (defD p).fs l (fullL Z) (defD p).fs.length := by
    unfold encL encF
    rw [h, if_pos rfl, eZ]
    rfl
  have hz : (⟨(encL p l).toArray⟩ : ByteArray).size = Z := by rw [eE]; exact enc_size (by omega) _
  have hl : (encL p l).length = Z := by rw [← hz, size_mk]
  have hC : decC (decide (ixD p < 6)) (defD p).s ⟨(encL p l).toArray⟩ = 0 := by
    unfold decC sizeC
    rw [hz, eZ, if_neg (by omega), h1, if_pos rfl, if_neg (by omega), if_neg (by omega)]
  refine ⟨by rw [hz, eZ], by omega, hC, ?_⟩
  unfold decV
  rw [if_pos hC, eE]
  rw [eZ] at hin
  exact enc_dec (by omega) (fun i hi => hin hi) (fun i k hik hk => hap hik hk) h3 h2
end Go.Proofs.Ytanijfmfjabmfaa
/- Drawn groups, Values of a group, texts of one: what the draws leave. Nothing that was there is written, but the source. -/
namespace Go.Proofs.Ytanijfmfjabmfaa
open Go.RowKit
set_option linter.unusedVariables false

theorem RsNew.far {α : Type} {c : α → List Value} {s : Nat} {e : TypeId} {lo hi hi' : Nat} {w w' : World} {a : Option Addr} {l : List α} {r : Option Nat} (h : RsNew c s e lo hi w a l) (hg : w.grownBy w' r)
    (hr : ∀ g, r = some g → g < lo ∨ ∃ row T, w.heap[g]? = some (.cells row T (0, 0)) ∧ T ≠ e) (hhi : hi ≤ hi') : RsNew c s e lo hi' w' a l := by
  rcases h with h | ⟨b, o, row, rfl, h3, h4, hb, k⟩
  · exact .inl h
  · refine .inr ⟨b, o, row, rfl, h3, by omega, (hg.block b (Array.getElem?_eq_some_iff.1 hb).1 fun e => ?_).trans hb, k⟩
    rcases hr b e.symm with q | ⟨row', T, q, hT⟩
    · omega
    · rw [hb] at q
      simp at q
      exact hT q.2.symm
theorem row_far {w w' : World} {r : Option Nat} {R : Nat} {cs : Array Value} {e : TypeId} (h : w.heap[R]? = some (.cells cs e (0, 0))) (hg : w.grownBy w' r)
    (hr : ∀ g, r = some g → g ≠ R ∨ ∃ row T, w.heap[g]? = some (.cells row T (0, 0)) ∧ T ≠ e) : w'.heap[R]? = some (.cells cs e (0, 0)) := by
  refine (hg.block R (Array.getElem?_eq_some_iff.1 h).1 fun e => ?_).trans h
  rcases hr R e.symm with q | ⟨row', T, q, hT⟩
  · exact q rfl
  · rw [h] at q
    simp at q
    exact hT q.2.symm
theorem own_far {w : World} {base : Nat} {e : TypeId} {s : Nat} {v : Value} {n : Nat} {xs : List Value} (h : w.ownsRow base e s v n xs) (g : Nat) (hg : v.ownBlock = some g) : ∃ row, w.heap[g]? = some (.cells row e (0, 0)) := by
  rcases h.2 with ⟨rfl, _⟩ | ⟨g', cap, cur, rfl, hb, hh, _⟩
  · cases hg
  · simp [Value.ownBlock] at hg
    subst hg
    exact ⟨_, hh⟩
theorem grownBy_own {w0 w w' : World} {S base : Nat} {T : TypeId} {s : Nat} {v : Value} {n : Nat} {xs : List Value} (h : w0.grownBy w (some S)) (ho : w.ownsRow base T s v n xs) (hg : w.grownBy w' v.ownBlock) (hb : w0.heap.size ≤ base) : w0.grownBy w' (some S) :=
  ⟨hg.os.trans h.os, hg.tape.trans h.tape, hg.output.trans h.output, Nat.le_trans h.size hg.size, fun k hk hne => (hg.block k (Nat.lt_of_lt_of_le hk h.size) fun e => by
    have := (World.ownsRow.lt ho k e.symm).1
    omega).trans (h.block k hk hne)⟩
/-- In the midst of the drawing of Values: their row so far, the group's row and its Fields. -/
structure LVs (w u : World) (S : Nat) (a : Option Addr) (len cap : Nat) (zs : List Int) (R : Nat) (d : Array Value) (fa : Option Addr) (F : List Fd) (V : Value) (l : List Vl) (W : World) : Prop where
  dr : Dr w S a len cap zs W
  gr : u.grownBy W (some S)
  own : W.ownsRow u.heap.size 142 2 V l.length (l.flatMap vlL)
  row : W.heap[R]? = some (.cells d 70 (0, 0))
  fl : RsNew fdL 3 77 u.heap.size W.heap.size W fa F
  lt : S < u.heap.size
  lo : w.heap.size ≤ u.heap.size
section
variable {w u W W' : World} {S : Nat} {a : Option Addr} {len cap : Nat} {zs : List Int} {R : Nat} {d : Array Value} {fa : Option Addr} {F : List Fd} {V V' : Value} {l l' : List Vl}
theorem LVs.src (h : LVs w u S a len cap zs R d fa F V l W) (hd : Dr w S a len cap zs W') (hg : W.grownBy W' (some S)) : LVs w u S a len cap zs R d fa F V l W' := by
  have hS := h.dr.src
  obtain ⟨k, m, z, hS, _⟩ := hS
  refine ⟨hd, grownBy_trans h.gr hg, h.own.kept hg ?_, row_far h.row hg fun g e => .inr ⟨_, _, by cases e; exact hS, by decide⟩, h.fl.far hg (fun g e => .inl (by cases e; exact h.lt)) hg.size, h.lt, h.lo⟩
  rcases ho : V.ownBlock with _ | g
  · exact .inl rfl
  · refine .inr fun e => ?_
    have := (World.ownsRow.lt h.own g ho).1
    have e := Option.some.inj e
    have := h.lt
    omega
theorem LVs.below (h : LVs w u S a len cap zs R d fa F V l W) (hb : Below W.heap.size W W') : LVs w u S a len cap zs R d fa F V l W' :=
  ⟨h.dr.made hb, grownBy_made h.gr hb, owns_below h.own hb, (hb.block R (Array.getElem?_eq_some_iff.1 h.row).1).trans h.row, (h.fl.kept hb).wide (Nat.le_refl _) hb.size, h.lt, h.lo⟩
theorem LVs.app (h : LVs w u S a len cap zs R d fa F V l W) (h1 : W'.ownsRow u.heap.size 142 2 V' l'.length (l'.flatMap vlL)) (h2 : W.grownBy W' V.ownBlock) : LVs w u S a len cap zs R d fa F V' l' W' := by
  have hf := own_far h.own
  refine ⟨h.dr.appended h.own h2 h.lt, grownBy_own h.gr h.own h2 (Nat.le_refl _), h1, row_far h.row h2 fun g e => ?_, h.fl.far h2 (fun g e => ?_) h2.size, h.lt, h.lo⟩
  · obtain ⟨row, hr⟩ := hf g e
    exact .inr ⟨row, _, hr, by decide⟩
  · obtain ⟨row, hr⟩ := hf g e
    exact .inr ⟨row, _, hr, by decide⟩
/-- Values drawn. -/
def NextVs (w : World) (S : Nat) (a : Option Addr) (len cap : Nat) (zs : List Int) (u : World) (e : Ending) (u' : World) : Prop :=
  ∃ (b : Option Addr) (c : Nat) (l : List Vl), e = .returned (.slice b l.length c) ∧ l.length ≤ 6 ∧ RsNew vlL 2 142 u.heap.size u'.heap.size u' b l ∧ Dr w S a len cap zs u' ∧ u.grownBy u' (some S)
theorem LVs.fin (h : LVs w u S a len cap zs R d fa F V l W) (hl : l.length ≤ 6) : NextVs w S a len cap zs u (.returned V) W := by
  obtain ⟨b, c, rfl, _, hn⟩ := RsNew.of_owns vlL_len h.own
  exact ⟨b, c, l, rfl, hl, hn, h.dr, h.gr⟩
theorem pgns_all : ∀ x ∈ pgnL, -1 ≤ x ∧ x ≤ 131072 := by decide
set_option maxRecDepth 100000 in
set_option maxHeartbeats 4000000 in
theorem pgn8_next (h : Dr w S a len cap zs u) : Calls Try.prog 121 #[.pointer (some ⟨S, 0, none⟩)] u (NextV w S a len cap zs (-1) 131072 u) := by
  have hS := h.src.lt
  go_enter Try.func121, Try.ntmps121
  go_wp2_with fail
  refine (one_next h 12 (by omega)).mono ?_
  rintro e u1 ⟨v1, rfl, h1, g1⟩
  have hS1 := h1.src.lt
  cases v1
  · go_wp2_with fail
    refine (specPgns_any u1).mono ?_
    rintro e u2 ⟨pa, pc, rfl, hn, hb⟩
    have h2 := h1.made hb
    have hS2 := h2.src.lt
    have hlen : pgnL.length = 6 := rfl
    rw [hlen]
    go_wp2_with fail
    refine (n_next h2 6 (by omega)).mono ?_
    rintro e u3 ⟨v, rfl, v0, vm, h3, g3⟩
    rcases hn with hn | ⟨b, o, rfl, hb1, hb2, hlt, hf, hc⟩
    · cases hn
    have hv : v < 6 := by omega
    obtain ⟨k, rfl⟩ := Int.eq_ofNat_of_zero_le v0
    have hk : k < pgnL.length := by rw [hlen]; omega
    have hx := List.getElem?_eq_getElem hk
    have hbnd := pgns_all _ (List.getElem_mem hk)
    generalize pgnL[k] = x at *
    have hcx := (far_cell g3 hlt (by omega) (o + k)).1.trans (hc k x hx)
    clear hc hf hx hlen hk
    go_wp2
    go_ret
    exact ⟨x, rfl, hbnd.1, hbnd.2, h3, grownBy_trans g1 (grownBy_trans (grown_of_below hb) g3)⟩
  · go_wp2_with fail
    refine (pgn_next h1).mono ?_
    rintro e u2 ⟨v, rfl, v0, v1, h2, g2⟩
    go_wp2_with fail
    go_ret
    exact ⟨v, rfl, v0, v1, h2, grownBy_trans g1 g2⟩
theorem cell_keep {W W' : World} {p : Addr} {v : Value} (hb : Below W.heap.size W W') (h : W.cell? p = some v) : W'.cell? p = some v :=
  (hb.cell (World.block_lt_of_cell? W p h)).trans h
theorem cell_far {W W' : World} {S R i : Nat} {v : Value} (hg : W.grownBy W' (some S)) (hne : R ≠ S) (h : W.cell? ⟨R, i, none⟩ = some v) : W'.cell? ⟨R, i, none⟩ = some v :=
  (far_cell hg (World.block_lt_of_cell? W _ h) hne i).1.trans h
theorem Dr.outn {w u u' : World} {S : Nat} {a : Option Addr} {len cap : Nat} {zs : List Int} (h : Dr w S a len cap zs u) {lo hi : Nat} (ho : Out lo hi u u') (hS : S < lo) : Dr w S a len cap zs u' :=
  ⟨h.src.of_heap (ho.block S h.src.lt (.inl hS)), h.row.kept (ho.below (Below.refl w.heap.size u) (Nat.le_of_lt (Nat.lt_of_le_of_lt h.lo hS)) h.below.size) h.args, ho.below h.below (Nat.le_of_lt (Nat.lt_of_le_of_lt h.lo hS)) h.below.size, h.lo, h.args, h.few⟩
theorem grownBy_outn {v y y' : World} {r : Option Nat} {lo hi : Nat} (h : v.grownBy y r) (ho : Out lo hi y y') (hlo : v.heap.size ≤ lo) : v.grownBy y' r :=
  ⟨ho.os.trans h.os, ho.tape.trans h.tape, ho.output.trans h.output, Nat.le_trans h.size ho.size, fun k hk hne => (ho.block k (Nat.lt_of_lt_of_le hk h.size) (.inl (by omega))).trans (h.block k hk hne)⟩
theorem val_cells {w : World} {R : Nat} {x : Vl} (h : RsIn vlL 2 w (some ⟨R, 0, none⟩) [x]) : ∀ j v, (vlL x)[j]? = some v → w.cell? ((⟨R, 0, none⟩ : Addr).add j) = some v := by
  rcases h with h | ⟨b, o, h, _, hc⟩
  · cases h
  · cases h
    intro j v hv
    have := hc 0 x rfl j v hv
    have e : (⟨R, 0, none⟩ : Addr).add j = ⟨R, j, none⟩ := by unfold Addr.add; split <;> simp_all
    rw [e]
    simpa using this
set_option maxRecDepth 100000 in
set_option maxHeartbeats 8000000 in
theorem values_next (p : Int) (h : Dr w S a len cap zs u) : Calls Try.prog 122 #[.pointer (some ⟨S, 0, none⟩), .int .i64 p] u (NextVs w S a len cap zs u) := by
  obtain ⟨i0, hi, hz0, hz1, hz2⟩ := info_parts Dec.info
  have HI0 := Lib.hid hi
  have HDr := Lib.hid h
  have hS := h.src.lt
  have hF5 := defD_len p
  have HD := fun W => Lib.hid (specDefOf_any p W)
  unfold DefOut at HD
  generalize defD p = d at *
  obtain ⟨P, Z, R, F⟩ := d
  dsimp only at *
  obtain ⟨N, hN⟩ : ∃ N, F.length = N := ⟨_, rfl⟩
  have HNl := Lib.hid hN
  rw [hN] at HD hF5
  clear hN h hi
  go_enter Try.func122, Try.ntmps122
  go_wp2_with (first
    | (refine wpList_lit0 vlL 2 rfl 61 rfl 142 i0 Try.underlying61 HI0.out ?_; intro w1 G1 eg hown b1; obtain ⟨H1, f1⟩ : ∃ x, w1.heap.size = x := ⟨_, rfl⟩; have qH1_G1 : G1 ≤ H1 := (by rw [← eg, ← f1]; exact b1.size); have HEG := Lib.hid eg; have HL1 := Lib.hid (show Lg u w1 [] [(G1, H1, fun W => OwnIn vlL 2 142 G1 H1 W (.slice (some ⟨G1, 0, none⟩) 0 0) [])] from (Lg.first u).made eg f1 b1 (by rw [← f1]; exact hown.solid)); clear hown b1 eg f1))
  refine ((HD _).out).mono ?_
  rintro e w2 ⟨fa, rfl, hn, h⟩
  obtain ⟨L2, e2⟩ : ∃ x, w1.heap.size = x := ⟨_, rfl⟩
  obtain ⟨H2, f2⟩ : ∃ x, w2.heap.size = x := ⟨_, rfl⟩
  have qL2_H1 : H1 ≤ L2 := Nat.le_trans (HL1.out.hi (.head _)).2 (Nat.le_of_eq e2)
  have qH2_L2 : L2 ≤ H2 := (by rw [← e2, ← f2]; exact h.size)
  have HL2 := Lib.hid (show Lg u w2 [] [(L2, H2, fun W => RsNew fdL 3 77 L2 H2 W fa F), (G1, H1, fun W => OwnIn vlL 2 142 G1 H1 W (.slice (some ⟨G1, 0, none⟩) 0 0) [])] from HL1.out.made e2 f2 h (by rw [← e2, ← f2]; exact hn.solid))
  clear h hn e2 f2
  go_wp2_with (first
    | (refine wpList_alloc_h rfl 70 rfl (.agg #[.int .i64 0, .int .i64 0, .int .i64 0, .slice none 0 0]) (by kernel_rfl) #[.int .i64 0, .int .i64 0, .int .i64 0, .slice none 0 0] rfl ?_; intro w3 R3 e3 g3 b3; have qR3_H2 : H2 ≤ R3 := Nat.le_trans (HL2.out.hi (.head _)).2 (Nat.le_of_eq e3); have qR3_H1 : H1 ≤ R3 := Nat.le_trans (HL2.out.hi (.tail _ (.head _))).2 (Nat.le_of_eq e3); have HL3 := Lib.hid (show Lg u w3 [(R3, #[.int .i64 0, .int .i64 0, .int .i64 0, .slice none 0 0], 70)] [(L2, H2, fun W => RsNew fdL 3 77 L2 H2 W fa F), (G1, H1, fun W => OwnIn vlL 2 142 G1 H1 W (.slice (some ⟨G1, 0, none⟩) 0 0) [])] from HL2.out.box e3 g3 b3); clear g3 b3 e3)
    | (refine wpList_put_at rfl 70 (.tmp 6) (.tmp 11) rfl rfl (R3) 0 rfl (.agg #[.int .i64 P, .int .i64 Z, .int .i64 R, .slice fa N N]) rfl #[.int .i64 P, .int .i64 Z, .int .i64 R, .slice fa N N] rfl 70 #[.int .i64 0, .int .i64 0, .int .i64 0, .slice none 0 0] #[.int .i64 P, .int .i64 Z, .int .i64 R, .slice fa N N] (HL3.out.get (.head _)) (by kernel_rfl) (by kernel_rfl) (by kernel_rfl) (by kernel_rfl) ?_; intro w4 g4 o4; have HL4 := Lib.hid (show Lg u w4 [(R3, #[.int .i64 P, .int .i64 Z, .int .i64 R, .slice fa N N], 70)] [(L2, H2, fun W => RsNew fdL 3 77 L2 H2 W fa F), (G1, H1, fun W => OwnIn vlL 2 142 G1 H1 W (.slice (some ⟨G1, 0, none⟩) 0 0) [])] from HL3.out.put 0 rfl g4 o4 (fun _ h => nomatch h) (List.forall_mem_cons.2 ⟨.inl qR3_H2, (List.forall_mem_cons.2 ⟨.inl qR3_H1, (fun _ h => nomatch h)⟩)⟩) rfl); clear g4 o4))
  have HLV0 := Lib.hid (show LVs w u S a len cap zs R3 #[.int .i64 P, .int .i64 Z, .int .i64 R, .slice fa N N] fa F (.slice (some ⟨G1, 0, none⟩) 0 0) [] w4 from ⟨HDr.out.made HL4.out.below, grownBy_made (World.grownBy.refl _ _) HL4.out.below, (by have h := (HL4.out.at (.tail _ (.head _))).1; have e := HEG.out; subst e; exact h), HL4.out.get (.head _), (HL4.out.at (.head _)).wide (HL4.out.lo (.head _)) (HL4.out.hi (.head _)).2, hS, HDr.out.below.size⟩)
  have geR6 := HL4.out.ge (.head _)
  obtain ⟨R6, eR6⟩ : ∃ x, R3 = x := ⟨_, rfl⟩
  rw [eR6] at HLV0 geR6 ⊢
  clear HL1 HL2 HL3 HL4 eR6
  go_loopw [5, 7] (fun v i wr => ∃ (k : Nat) (V : Value) (l : List Vl), i = .int .i64 (k : Int) ∧ V = v ∧ k ≤ N ∧ l.length = k ∧ LVs w u S a len cap zs R6 #[.int .i64 P, .int .i64 Z, .int .i64 R, .slice fa N N] fa F V l wr) (fun _ i _ => N - (intOf i).toNat)
  case atStart => exact ⟨0, _, [], rfl, rfl, by omega, rfl, HLV0.out⟩
  case round =>
    obtain ⟨k, V, l, rfl, rfl, hk, hlk, hLV⟩ := hrel
    have HLV := Lib.hid hLV
    clear hLV HLV0
    by_cases hkn : k < N
    · have hi1 : (0 : Int) ≤ (k : Int) := by omega
      have hi2 : (k : Int) < (N : Int) := by omega
      have hkF : k < F.length := by have := HNl.out; omega
      obtain ⟨b, o, rfl, hlt, hc⟩ := HLV.out.fl.ins.at (by omega)
      have HCf := Lib.hid (fun j v hv => hc k _ (fdAt_some hkF) j v hv)
      have HVRx := fun W vk vn => Lib.hid (specValueRight_any (fdAt F k).a (fdAt F k).w (fdAt F k).g vk vn W)
      clear hc
      generalize fdAt F k = x at *
      obtain ⟨fa, fw, fg⟩ := x
      unfold fdL at HCf
      unfold fdV vlV at HVRx
      dsimp only at *
      have HVN := fun W h => Lib.hid (@value_next w W S a len cap zs fa fw fg h)
      unfold NextVl fdV vlV at HVN
      go_wp2_with (first
        | (refine wpList_load_one rfl 68 (.tmp 13) rfl R6 3 rfl 70 #[.int .i64 P, .int .i64 Z, .int .i64 R, .slice (some ⟨b, o, none⟩) N N] (0, 0) HLV.out.row (.slice (some ⟨b, o, none⟩) N N) rfl _ Try.underlying68 rfl (by kernel_rfl) ?_)
        | (refine wpList_load_one rfl 68 (.tmp 20) rfl R6 3 rfl 70 #[.int .i64 P, .int .i64 Z, .int .i64 R, .slice (some ⟨b, o, none⟩) N N] (0, 0) HLV.out.row (.slice (some ⟨b, o, none⟩) N N) rfl _ Try.underlying68 rfl (by kernel_rfl) ?_)
        | (refine wpList_load_cells rfl 77 (.tmp 23) rfl b (o + k * 3) rfl [.int .i64 fa, .int .i64 fw, .bool fg] HCf.out _ Try.underlying77 rfl (by kernel_rfl) ?_))
      refine (HVN _ HLV.out.dr).out.mono ?_
      rintro e v2 ⟨vk, vn, rfl, hvk, hvn, hd2, hg2⟩
      have HL2' := Lib.hid (HLV.out.src hd2 hg2)
      have hbne : b ≠ S := by
        rcases HLV.out.fl with q | ⟨b', o', row, q, q2, _⟩
        · have := HNl.out; rw [q] at this; simp at this; omega
        · cases q; have := HLV.out.lt; omega
      have HC2 := Lib.hid (fun j v hv => (far_cell hg2 hlt hbne (o + k * 3 + j)).1.trans (HCf.out j v hv))
      have lf2 : b < v2.heap.size := Nat.lt_of_lt_of_le hlt hg2.size
      have HVR := fun W => HVRx W vk vn
      clear HVN HVRx hvk hvn hd2 hg2 HLV HCf
      generalize valB fa fw fg vk vn = Y at *
      go_wp2_with (first
        | (refine wpList_alloc_h rfl 142 rfl (.agg #[.int .i64 0, .int .i64 0]) (by kernel_rfl) #[.int .i64 0, .int .i64 0] rfl ?_; intro w1 qR1 e1 g1 b1; have HL1 := Lib.hid (show Lg v2 w1 [(qR1, #[.int .i64 0, .int .i64 0], 142)] [] from (Lg.first v2).box e1 g1 b1); clear g1 b1 e1)
        | (refine wpList_put_at rfl 142 (.tmp 8) (.tmp 25) rfl rfl (qR1) 0 rfl (.agg #[.int .i64 vk, .int .i64 vn]) rfl #[.int .i64 vk, .int .i64 vn] rfl 142 #[.int .i64 0, .int .i64 0] #[.int .i64 vk, .int .i64 vn] (HL1.out.get (.head _)) (by kernel_rfl) (by kernel_rfl) (by kernel_rfl) (by kernel_rfl) ?_; intro w2 g2 o2; have HL2 := Lib.hid (show Lg v2 w2 [(qR1, #[.int .i64 vk, .int .i64 vn], 142)] [] from HL1.out.put 0 rfl g2 o2 (fun _ h => nomatch h) (fun _ h => nomatch h) rfl); clear g2 o2))
      have lfU : b < w2.heap.size := Nat.lt_of_lt_of_le lf2 HL2.out.below.size
      have HCU := Lib.hid (fun j v hv => (HL2.out.below.cell (p := ⟨b, _, none⟩) lf2).trans (HC2.out j v hv))
      have HLU := Lib.hid (HL2'.out.below HL2.out.below)
      simp only [Act.put, List.setIfInBounds_toArray, List.set_cons_zero, List.set_cons_succ]
      rcases Y with _ | _
      · have hR6S : R6 ≠ S := by
          intro e
          have h := HL2'.out.row
          obtain ⟨q1, q2, q3, hq, _⟩ := HL2'.out.dr.src
          rw [e, hq] at h
          simp at h
        have hR8S : qR1 ≠ S := by
          have h1 := HL2'.out.dr.src.lt
          have h2 := HL2.out.ge (.head _)
          omega
        have HS0 := Lib.hid (show (w2.drew.cell? ⟨R6, 3, none⟩ = some (.slice (some ⟨b, o, none⟩) N N) ∧ w2.drew.cell? ⟨b, o + k * 3, none⟩ = some (.int .i64 fa) ∧ w2.drew.cell? ⟨b, o + k * 3 + 1, none⟩ = some (.int .i64 fw) ∧ w2.drew.cell? ⟨b, o + k * 3 + 2, none⟩ = some (.bool fg) ∧ w2.drew.cell? ⟨qR1, 0, none⟩ = some (.int .i64 vk) ∧ w2.drew.cell? ⟨qR1, 1, none⟩ = some (.int .i64 vn)) ∧ Dr w S a len cap zs w2.drew ∧ v2.grownBy w2.drew (some S) ∧ w2.drew.heap[qR1]? = some (.cells #[.int .i64 vk, .int .i64 vn] 142 (0, 0)) from ⟨⟨(cell_of_row _ R6 3 _ _ (0, 0) HLU.out.row).trans rfl, HCU.out 0 _ rfl, HCU.out 1 _ rfl, HCU.out 2 _ rfl, (cell_of_row _ _ 0 _ _ (0, 0) (HL2.out.get (.head _))).trans rfl, (cell_of_row _ _ 1 _ _ (0, 0) (HL2.out.get (.head _))).trans rfl⟩, HLU.out.dr.drew, grownBy_drew (grown_of_below HL2.out.below), HL2.out.get (.head _)⟩)
        have HSC := Lib.hid (show ∀ W W', ((W.cell? ⟨R6, 3, none⟩ = some (.slice (some ⟨b, o, none⟩) N N) ∧ W.cell? ⟨b, o + k * 3, none⟩ = some (.int .i64 fa) ∧ W.cell? ⟨b, o + k * 3 + 1, none⟩ = some (.int .i64 fw) ∧ W.cell? ⟨b, o + k * 3 + 2, none⟩ = some (.bool fg) ∧ W.cell? ⟨qR1, 0, none⟩ = some (.int .i64 vk) ∧ W.cell? ⟨qR1, 1, none⟩ = some (.int .i64 vn)) ∧ Dr w S a len cap zs W ∧ v2.grownBy W (some S) ∧ W.heap[qR1]? = some (.cells #[.int .i64 vk, .int .i64 vn] 142 (0, 0))) → Below W.heap.size W W' → ((W'.cell? ⟨R6, 3, none⟩ = some (.slice (some ⟨b, o, none⟩) N N) ∧ W'.cell? ⟨b, o + k * 3, none⟩ = some (.int .i64 fa) ∧ W'.cell? ⟨b, o + k * 3 + 1, none⟩ = some (.int .i64 fw) ∧ W'.cell? ⟨b, o + k * 3 + 2, none⟩ = some (.bool fg) ∧ W'.cell? ⟨qR1, 0, none⟩ = some (.int .i64 vk) ∧ W'.cell? ⟨qR1, 1, none⟩ = some (.int .i64 vn)) ∧ Dr w S a len cap zs W' ∧ v2.grownBy W' (some S) ∧ W'.heap[qR1]? = some (.cells #[.int .i64 vk, .int .i64 vn] 142 (0, 0))) from fun W W' ⟨⟨a0, a1, a2, a3, a4, a5⟩, a6, a7, a8⟩ hb => ⟨⟨cell_keep hb a0, cell_keep hb a1, cell_keep hb a2, cell_keep hb a3, cell_keep hb a4, cell_keep hb a5⟩, a6.made hb, grownBy_made a7 hb, (hb.block _ (Array.getElem?_eq_some_iff.1 a8).1).trans a8⟩)
        have HSG := Lib.hid (show ∀ W W', ((W.cell? ⟨R6, 3, none⟩ = some (.slice (some ⟨b, o, none⟩) N N) ∧ W.cell? ⟨b, o + k * 3, none⟩ = some (.int .i64 fa) ∧ W.cell? ⟨b, o + k * 3 + 1, none⟩ = some (.int .i64 fw) ∧ W.cell? ⟨b, o + k * 3 + 2, none⟩ = some (.bool fg) ∧ W.cell? ⟨qR1, 0, none⟩ = some (.int .i64 vk) ∧ W.cell? ⟨qR1, 1, none⟩ = some (.int .i64 vn)) ∧ Dr w S a len cap zs W ∧ v2.grownBy W (some S) ∧ W.heap[qR1]? = some (.cells #[.int .i64 vk, .int .i64 vn] 142 (0, 0))) → Dr w S a len cap zs W' → W.grownBy W' (some S) → ((W'.cell? ⟨R6, 3, none⟩ = some (.slice (some ⟨b, o, none⟩) N N) ∧ W'.cell? ⟨b, o + k * 3, none⟩ = some (.int .i64 fa) ∧ W'.cell? ⟨b, o + k * 3 + 1, none⟩ = some (.int .i64 fw) ∧ W'.cell? ⟨b, o + k * 3 + 2, none⟩ = some (.bool fg) ∧ W'.cell? ⟨qR1, 0, none⟩ = some (.int .i64 vk) ∧ W'.cell? ⟨qR1, 1, none⟩ = some (.int .i64 vn)) ∧ Dr w S a len cap zs W' ∧ v2.grownBy W' (some S) ∧ W'.heap[qR1]? = some (.cells #[.int .i64 vk, .int .i64 vn] 142 (0, 0))) from fun W W' ⟨⟨a0, a1, a2, a3, a4, a5⟩, a6, a7, a8⟩ hd hg => ⟨⟨cell_far hg hR6S a0, cell_far hg hbne a1, cell_far hg hbne a2, cell_far hg hbne a3, cell_far hg hR8S a4, cell_far hg hR8S a5⟩, hd, grownBy_trans a7 hg, (hg.block _ (Array.getElem?_eq_some_iff.1 a8).1 (by simp; omega)).trans a8⟩)
        have HSD := Lib.hid (show ∀ W, ((W.cell? ⟨R6, 3, none⟩ = some (.slice (some ⟨b, o, none⟩) N N) ∧ W.cell? ⟨b, o + k * 3, none⟩ = some (.int .i64 fa) ∧ W.cell? ⟨b, o + k * 3 + 1, none⟩ = some (.int .i64 fw) ∧ W.cell? ⟨b, o + k * 3 + 2, none⟩ = some (.bool fg) ∧ W.cell? ⟨qR1, 0, none⟩ = some (.int .i64 vk) ∧ W.cell? ⟨qR1, 1, none⟩ = some (.int .i64 vn)) ∧ Dr w S a len cap zs W ∧ v2.grownBy W (some S) ∧ W.heap[qR1]? = some (.cells #[.int .i64 vk, .int .i64 vn] 142 (0, 0))) → Dr w S a len cap zs W from fun W h => h.2.1)
        go_region_held3 (fun W => (W.cell? ⟨R6, 3, none⟩ = some (.slice (some ⟨b, o, none⟩) N N) ∧ W.cell? ⟨b, o + k * 3, none⟩ = some (.int .i64 fa) ∧ W.cell? ⟨b, o + k * 3 + 1, none⟩ = some (.int .i64 fw) ∧ W.cell? ⟨b, o + k * 3 + 2, none⟩ = some (.bool fg) ∧ W.cell? ⟨qR1, 0, none⟩ = some (.int .i64 vk) ∧ W.cell? ⟨qR1, 1, none⟩ = some (.int .i64 vn)) ∧ Dr w S a len cap zs W ∧ v2.grownBy W (some S) ∧ W.heap[qR1]? = some (.cells #[.int .i64 vk, .int .i64 vn] 142 (0, 0)))
          (first | assumption | (with_reducible exact HS0.out) | (with_reducible exact HSC.out _ _ (by assumption) (by assumption)) | (with_reducible exact HSG.out _ _ (by assumption) (by assumption) (by assumption)))
          (first
            | (go_at_call 134; (with_reducible refine (HVR _).out.mono ?_); rintro e y1 ⟨rfl, hy1⟩)
            | (go_at_call 78; (with_reducible refine (one_next (HSD.out _ (by assumption)) 10 (by omega)).mono ?_); rintro e y2 ⟨ob, rfl, hy2, gy2⟩))
        rename_i hHeld
        obtain ⟨_, hdY, hgY, hrY⟩ := hHeld
        have HLX := Lib.hid (HL2'.out.src hdY hgY)
        have HRX := Lib.hid hrY
        have HDY := Lib.hid hdY
        have HGY := Lib.hid hgY
        have HLt := Lib.hid (show S < qR1 from Nat.lt_of_lt_of_le HL2'.out.dr.src.lt (HL2.out.ge (.head _)))
        have HGe := Lib.hid (HL2.out.ge (.head _))
        clear hdY hgY hrY hy1 hy2 gy2 HSD HSG HSC HS0 hR8S hR6S
        cases ob
        · skip
          go_wp2_with (first
            | (refine wpList_put_at rfl 142 (.tmp 8) (.tmp 39) rfl rfl (qR1) 0 rfl (.agg #[.int .i64 1, .int .i64 1]) rfl #[.int .i64 1, .int .i64 1] rfl 142 #[.int .i64 vk, .int .i64 vn] #[.int .i64 1, .int .i64 1] HRX.out (by kernel_rfl) (by kernel_rfl) (by kernel_rfl) (by kernel_rfl) ?_; intro y5 g5 o5; have HRX5 := Lib.hid g5; have HLX5 := Lib.hid (HL2'.out.src (HDY.out.outn o5 HLt.out) (grownBy_outn HGY.out o5 HGe.out)); clear g5 o5)
            | (refine wpList_load_at rfl 142 (.tmp 8) rfl (qR1) 0 rfl 142 #[.int .i64 1, .int .i64 1] (0, 0) HRX5.out [.int .i64 1, .int .i64 1] rfl _ Try.underlying142 rfl (by kernel_rfl) ?_)
            | (refine wpList_lit1 vlL_len rfl 61 (.tmp 41) rfl 142 i0 Try.underlying61 HI0.out _ hz0 hz1 ⟨1, 1⟩ (.agg #[.int .i64 1, .int .i64 1]) rfl rfl (by kernel_rfl) (by decide) (by decide) ?_; intro w20 R20 e20 hin20 b20; have HR20 := Lib.hid hin20; have HL20 := Lib.hid (HLX5.out.below b20); clear e20 hin20 b20)
            | (at_builtin; refine wpList_append_own _ rfl (.tmp 40) (.tmp 42) 61 rfl u.heap.size 142 i0 _ 2 16 Try.underlying61 HI0.out hz0 hz1 hz2 (by kernel_rfl) (by decide) V l.length (l.flatMap vlL) rfl HL20.out.own ⟨R20, 0, none⟩ 1 _ (vlL ⟨1, 1⟩) rfl rfl (val_cells HR20.out) (vlL_one _) (by unfold maxLen; omega) (by omega) HL20.out.gr.size ?_; intro v21 w21 hown21 hg21 _; have HO21 := Lib.hid hown21; have HG21 := Lib.hid hg21; clear hown21 hg21))
          have HL21 := Lib.hid (HL20.out.app (l' := l ++ [⟨1, 1⟩]) (by have h := HO21.out; simpa using h) HG21.out)
          go_roundw
          case rel => exact ⟨k + 1, _, _, by go_num, rfl, by omega, by simp; omega, HL21.out⟩
          case measure => simp [intOf]; omega
        · skip
          go_wp2_with (first
            | (refine wpList_load_at rfl 142 (.tmp 8) rfl (qR1) 0 rfl 142 #[.int .i64 vk, .int .i64 vn] (0, 0) HRX.out [.int .i64 vk, .int .i64 vn] rfl _ Try.underlying142 rfl (by kernel_rfl) ?_)
            | (refine wpList_lit1 vlL_len rfl 61 (.tmp 41) rfl 142 i0 Try.underlying61 HI0.out _ hz0 hz1 ⟨vk, vn⟩ (.agg #[.int .i64 vk, .int .i64 vn]) rfl rfl (by kernel_rfl) (by decide) (by decide) ?_; intro w20 R20 e20 hin20 b20; have HR20 := Lib.hid hin20; have HL20 := Lib.hid (HLX.out.below b20); clear e20 hin20 b20)
            | (at_builtin; refine wpList_append_own _ rfl (.tmp 40) (.tmp 42) 61 rfl u.heap.size 142 i0 _ 2 16 Try.underlying61 HI0.out hz0 hz1 hz2 (by kernel_rfl) (by decide) V l.length (l.flatMap vlL) rfl HL20.out.own ⟨R20, 0, none⟩ 1 _ (vlL ⟨vk, vn⟩) rfl rfl (val_cells HR20.out) (vlL_one _) (by unfold maxLen; omega) (by omega) HL20.out.gr.size ?_; intro v21 w21 hown21 hg21 _; have HO21 := Lib.hid hown21; have HG21 := Lib.hid hg21; clear hown21 hg21))
          have HL21 := Lib.hid (HL20.out.app (l' := l ++ [⟨vk, vn⟩]) (by have h := HO21.out; simpa using h) HG21.out)
          go_roundw
          case rel => exact ⟨k + 1, _, _, by go_num, rfl, by omega, by simp; omega, HL21.out⟩
          case measure => simp [intOf]; omega
      · skip
        refine wp_region_quiet (C := fun W => Below w2.heap.size w2 W) (by kernel_rfl) (by kernel_rfl) (Below.refl _ _).drew ?_
        dsimp only
        go_big_quiet_want; go_big_quiet_op; first | go_big_quiet_on | (refine ⟨_, fun _ _ => rfl, ?_⟩; go_big_quiet_on)
        go_big_quiet_want; refine ⟨.slice (some ⟨b, o, none⟩) N N, fun W hW => (quietLoadOne 68 (.tmp 26) rfl R6 3 rfl _ (rowCells HLU.out.row hW _ _ rfl) _ Try.underlying68 rfl), ?_⟩; simp only [Act.put, List.setIfInBounds_toArray, List.set_cons_zero, List.set_cons_succ]; go_big_quiet_on
        go_big_quiet_want; go_big_quiet_op; first | go_big_quiet_on | (refine ⟨_, fun _ _ => rfl, ?_⟩; go_big_quiet_on)
        go_big_quiet_want; go_big_quiet_op; first | go_big_quiet_on | (refine ⟨_, fun _ _ => rfl, ?_⟩; go_big_quiet_on)
        go_big_quiet_want; refine ⟨.agg #[.int .i64 fa, .int .i64 fw, .bool fg], fun W hW => (quietLoadCells 77 (.tmp 29) rfl b (o + k * 3) rfl [.int .i64 fa, .int .i64 fw, .bool fg] (grownCells lfU HCU.out hW) _ Try.underlying77 rfl (by kernel_rfl)), ?_⟩; simp only [Act.put, List.setIfInBounds_toArray, List.set_cons_zero, List.set_cons_succ]; go_big_quiet_on
        go_big_quiet_want; refine ⟨.agg #[.int .i64 vk, .int .i64 vn], fun W hW => (quietLoadCells 142 (.tmp 8) rfl qR1 0 rfl [.int .i64 vk, .int .i64 vn] (rowAt0 (HL2.out.get (.head _)) hW) _ Try.underlying142 rfl (by kernel_rfl)), ?_⟩; simp only [Act.put, List.setIfInBounds_toArray, List.set_cons_zero, List.set_cons_succ]; go_big_quiet_on
        go_big_quiet_want; go_big_quiet_op; refine ⟨_, fun W hW => quietCall hW (HVR W).out, ?_⟩; go_big_quiet_on
        go_big_quiet_want; go_big_quiet_op; first | go_big_quiet_on | (refine ⟨_, fun _ _ => rfl, ?_⟩; go_big_quiet_on)
        go_big_quiet_want; go_big_quiet_op; first | go_big_quiet_on | (refine ⟨_, fun _ _ => rfl, ?_⟩; go_big_quiet_on)
        first | go_big_quiet_skip | (go_big_quiet_want; go_big_quiet_op; first | go_big_quiet_on | (refine ⟨_, fun _ _ => rfl, ?_⟩; go_big_quiet_on))
        first | go_big_quiet_skip | (go_big_quiet_want; go_big_quiet_op; refine ⟨_, fun W hW => skip, ?_⟩; go_big_quiet_on)
        first | go_big_quiet_skip | (go_big_quiet_want; go_big_quiet_op; first | go_big_quiet_on | (refine ⟨_, fun _ _ => rfl, ?_⟩; go_big_quiet_on))
        go_big_quiet_want; go_big_quiet_op; first | go_big_quiet_on | (refine ⟨_, fun _ _ => rfl, ?_⟩; go_big_quiet_on)
        refine wpQuiet_nil ?_
        intro X hX
        have HLX := Lib.hid (HLU.out.below hX)
        have HRX := Lib.hid ((hX.block _ (HL2.out.lt (.head _))).trans (HL2.out.get (.head _)))
        go_wp2_with (first
          | (refine wpList_load_at rfl 142 (.tmp 8) rfl (qR1) 0 rfl 142 #[.int .i64 vk, .int .i64 vn] (0, 0) HRX.out [.int .i64 vk, .int .i64 vn] rfl _ Try.underlying142 rfl (by kernel_rfl) ?_)
          | (refine wpList_lit1 vlL_len rfl 61 (.tmp 41) rfl 142 i0 Try.underlying61 HI0.out _ hz0 hz1 ⟨vk, vn⟩ (.agg #[.int .i64 vk, .int .i64 vn]) rfl rfl (by kernel_rfl) (by decide) (by decide) ?_; intro w20 R20 e20 hin20 b20; have HR20 := Lib.hid hin20; have HL20 := Lib.hid (HLX.out.below b20); clear e20 hin20 b20)
          | (at_builtin; refine wpList_append_own _ rfl (.tmp 40) (.tmp 42) 61 rfl u.heap.size 142 i0 _ 2 16 Try.underlying61 HI0.out hz0 hz1 hz2 (by kernel_rfl) (by decide) V l.length (l.flatMap vlL) rfl HL20.out.own ⟨R20, 0, none⟩ 1 _ (vlL ⟨vk, vn⟩) rfl rfl (val_cells HR20.out) (vlL_one _) (by unfold maxLen; omega) (by omega) HL20.out.gr.size ?_; intro v21 w21 hown21 hg21 _; have HO21 := Lib.hid hown21; have HG21 := Lib.hid hg21; clear hown21 hg21))
        have HL21 := Lib.hid (HL20.out.app (l' := l ++ [⟨vk, vn⟩]) (by have h := HO21.out; simpa using h) HG21.out)
        go_roundw
        case rel => exact ⟨k + 1, _, _, by go_num, rfl, by omega, by simp; omega, HL21.out⟩
        case measure => simp [intOf]; omega
    · obtain rfl : N = k := by omega
      go_wp2_with (refine wpList_load_one rfl 68 (.tmp 13) rfl R6 3 rfl 70 #[.int .i64 P, .int .i64 Z, .int .i64 R, .slice fa N N] (0, 0) HLV.out.row (.slice fa N N) rfl _ Try.underlying68 rfl (by kernel_rfl) ?_)
      refine (one_next HLV.out.dr 20 (by omega)).mono ?_
      rintro e y1 ⟨ob, rfl, hd, hg⟩
      have HLY := Lib.hid (HLV.out.src hd hg)
      cases ob
      · go_wp2_with fail
        go_ret
        exact HLY.out.fin (by omega)
      · go_wp2_with (first
          | (refine wpList_lit1 vlL_len rfl 61 (.tmp 47) rfl 142 i0 Try.underlying61 HI0.out _ hz0 hz1 ⟨1, 0⟩ (.agg #[.int .i64 1, .int .i64 0]) rfl rfl (by kernel_rfl) (by decide) (by decide) ?_; intro w20 R20 e20 hin20 b20; have HR20 := Lib.hid hin20; have HL20 := Lib.hid (HLY.out.below b20); clear e20 hin20 b20)
          | (at_builtin; refine wpList_append_own _ rfl (.tmp 46) (.tmp 48) 61 rfl u.heap.size 142 i0 _ 2 16 Try.underlying61 HI0.out hz0 hz1 hz2 (by kernel_rfl) (by decide) V l.length (l.flatMap vlL) rfl HL20.out.own ⟨R20, 0, none⟩ 1 _ (vlL ⟨1, 0⟩) rfl rfl (val_cells HR20.out) (vlL_one _) (by unfold maxLen; omega) (by omega) HL20.out.gr.size ?_; intro v21 w21 hown21 hg21 _; have HO21 := Lib.hid hown21; have HG21 := Lib.hid hg21; clear hown21 hg21))
        have HL21 := Lib.hid (HL20.out.app (l' := l ++ [⟨1, 0⟩]) (by have h := HO21.out; simpa using h) HG21.out)
        go_ret
        exact HL21.out.fin (by simp; omega)
end
end Go.Proofs.Ytanijfmfjabmfaa
/- The draws of FnTable: a group and Values of it; a group and a text. Nothing that was there is written. -/
namespace Go.Proofs.Ytanijfmfjabmfaa
open Go.RowKit
set_option linter.unusedVariables false

theorem run_field_def (x y z : Int) (a : Option Addr) (n c : Nat) (w : World) : (Instr.field 70 (.agg #[.int .i64 x, .int .i64 y, .int .i64 z, .slice a n c]) 1).run Try.prog w = .ok (.int .i64 y) w := by
  simp [Instr.field, asAgg, go_sem]
theorem run_field_vo (a : Option Addr) (n c : Nat) (x : Int) (w : World) : (Instr.field 66 (.agg #[.slice a n c, .int .i64 x]) 0).run Try.prog w = .ok (.slice a n c) w := by
  simp [Instr.field, asAgg, go_sem]
theorem encL_len (p : Int) (l : List Vl) : (encL p l).length ≤ 14 := by
  cases h : vrB p l
  · unfold encL encF
    rw [h]
    simp
  · have h1 := (enc_all p l h).1
    rw [size_mk] at h1
    have hix := of_decide_eq_true (vrF_of h).1
    rcases (defD_s p).1 hix with q | q <;> omega
section
variable {w : World} {a : Option Addr} {len cap : Nat} {zs : List Int}
set_option maxRecDepth 100000 in
theorem drawValuesRight_any (hr : RowIn w a len zs) (hlen : len ≤ 1048576) (hba : 0 < len → ∀ b o, a = some ⟨b, o, none⟩ → b < w.heap.size) :
    Calls Try.prog 118 #[.slice a len cap] w fun e w' => ∃ (p : Int) (b : Option Addr) (c : Nat) (l : List Vl), -1 ≤ p ∧ p ≤ 131072 ∧ l.length ≤ 6 ∧ e = .returned (.tuple #[.int .i64 p, .slice b l.length c]) ∧ RsNew vlL 2 142 w.heap.size w'.heap.size w' b l ∧ Below w.heap.size w w' := by
  have HS := Lib.hid (source_next (cap := cap) hr hlen hba)
  clear hr hba
  go_enter Try.func118, Try.ntmps118
  go_wp2_with fail
  refine HS.out.mono ?_
  rintro e u0 ⟨rfl, h0⟩
  go_wp2_with fail
  refine (pgn8_next h0).mono ?_
  rintro e u1 ⟨p, rfl, p0, p1, h1, g1⟩
  go_wp2_with fail
  refine (values_next p h1).mono ?_
  rintro e u2 ⟨b, c, l, rfl, hl, hn, h2, g2⟩
  go_wp2_with fail
  go_ret2
  exact ⟨p, b, c, l, p0, p1, hl, rfl, hn.wide h1.below.size (Nat.le_refl _), h2.below⟩
set_option maxRecDepth 100000 in
theorem drawEncode_any (hr : RowIn w a len zs) (hlen : len ≤ 1048576) (hba : 0 < len → ∀ b o, a = some ⟨b, o, none⟩ → b < w.heap.size) :
    Calls Try.prog 42 #[.slice a len cap] w fun e w' => ∃ (p : Int) (b : Option Addr) (c : Nat) (l : List Vl), -1 ≤ p ∧ p ≤ 131072 ∧ l.length ≤ 6 ∧ e = .returned (.tuple #[.int .i64 p, .slice b l.length c]) ∧ RsNew vlL 2 142 w.heap.size w'.heap.size w' b l ∧ Below w.heap.size w w' := by
  have HS := Lib.hid (drawValuesRight_any (cap := cap) hr hlen hba)
  clear hr hba
  go_enter Try.func42, Try.ntmps42
  go_wp2_with fail
  refine HS.out.mono ?_
  rintro e u2 ⟨p, b, c, l, p0, p1, hl, rfl, hn, h2⟩
  go_wp2_with fail
  go_ret2
  exact ⟨p, b, c, l, p0, p1, hl, rfl, hn, h2⟩
set_option maxRecDepth 100000 in
set_option maxHeartbeats 4000000 in
theorem drawDecode_any (hr : RowIn w a len zs) (hlen : len ≤ 1048576) (hba : 0 < len → ∀ b o, a = some ⟨b, o, none⟩ → b < w.heap.size) :
    Calls Try.prog 44 #[.slice a len cap] w fun e w' => ∃ (p : Int) (s : ByteArray), -1 ≤ p ∧ p ≤ 131072 ∧ s.size ≤ 15 ∧ e = .returned (.tuple #[.int .i64 p, .string s]) ∧ Below w.heap.size w w' := by
  have HS := Lib.hid (source_next (cap := cap) hr hlen hba)
  clear hr hba
  go_enter Try.func44, Try.ntmps44
  go_wp2_with fail
  refine HS.out.mono ?_
  rintro e u0 ⟨rfl, h0⟩
  go_wp2_with fail
  refine (pgn8_next h0).mono ?_
  rintro e u1 ⟨p, rfl, p0, p1, h1, g1⟩
  have hz : 0 ≤ (defD p).s ∧ (defD p).s ≤ 14 := by
    by_cases h : ixD p < 6
    · rcases (defD_s p).1 h with q | q <;> omega
    · have := (defD_s p).2 h
      omega
  have HD := Lib.hid (specDefOf_any p u1)
  unfold DefOut at HD
  have HE := fun W b c l h h2 => Lib.hid (specEncode_any p b c l W h h2)
  have HEl := fun l => Lib.hid (encL_len p l)
  generalize (defD p).s = z at *
  go_wp2_with fail
  refine HD.out.mono ?_
  rintro e u2 ⟨fa, rfl, _, hb2⟩
  have h2 := h1.made hb2
  have hfld := run_field_def
  go_wp2_with fail
  clear hfld
  refine (bytes_next h2 z hz.1 (by omega)).mono ?_
  rintro e u3 ⟨t, ht, rfl, h3, g3⟩
  have ht14 : (ByteArray.mk t.toArray).size ≤ 14 := by rw [size_mk]; omega
  generalize ByteArray.mk t.toArray = s at *
  clear ht
  go_wp2_with fail
  refine (one_next h3 2 (by omega)).mono ?_
  rintro e u4 ⟨b1, rfl, h4, g4⟩
  cases b1
  · go_wp2_with fail
    refine (one_next h4 8 (by omega)).mono ?_
    rintro e u5 ⟨b2, rfl, h5, g5⟩
    cases b2
    · go_wp2_with fail
      go_ret2
      exact ⟨p, s, p0, p1, by omega, rfl, h5.below⟩
    · go_wp2_with fail
      go_ret2
      exact ⟨p, _, p0, p1, by rw [ByteArray.size_append]; show s.size + 1 ≤ 15; omega, rfl, h5.below⟩
  · go_wp2_with fail
    refine (values_next p h4).mono ?_
    rintro e u5 ⟨b, c, l, rfl, hl, hn, h5, g5⟩
    go_wp2_with fail
    refine (HE _ _ _ _ hn.ins (by unfold maxLen; omega)).out.mono ?_
    rintro e u6 ⟨rfl, hb6⟩
    have h6 := h5.made hb6
    have he := (HEl l).out
    have ht15 : (ByteArray.mk (encL p l).toArray).size ≤ 14 := by rw [size_mk]; exact he
    generalize ByteArray.mk (encL p l).toArray = s2 at *
    clear he
    go_wp2_with fail
    refine (one_next h6 8 (by omega)).mono ?_
    rintro e u7 ⟨b2, rfl, h7, g7⟩
    cases b2
    · go_wp2_with fail
      go_ret2
      exact ⟨p, s2, p0, p1, by omega, rfl, h7.below⟩
    · go_wp2_with fail
      go_ret2
      exact ⟨p, _, p0, p1, by rw [ByteArray.size_append]; show s2.size + 1 ≤ 15; omega, rfl, h7.below⟩
end
end Go.Proofs.Ytanijfmfjabmfaa
/- The laws' own lwValues of two rows alike. Nothing that was there is written. -/
namespace Go.Proofs.Ytanijfmfjabmfaa
open Go.RowKit
set_option linter.unusedVariables false
set_option maxRecDepth 100000 in
set_option maxHeartbeats 2000000 in
theorem lwValues_same (a a' : Option Addr) (cap cap' : Nat) (l : List Vl) (w : World) (h : RsIn vlL 2 w a l) (h' : RsIn vlL 2 w a' l) (hlen : l.length ≤ 1048576) :
    Calls Try.prog 50 #[.slice a l.length cap, .slice a' l.length cap'] w fun e w' => e = .returned (.bool true) ∧ Below w.heap.size w w' := by
  obtain ⟨N, hN⟩ : ∃ N, l.length = N := ⟨_, rfl⟩
  have HN := Lib.hid hN
  have HI := Lib.hid h
  have HI' := Lib.hid h'
  rw [hN] at hlen ⊢
  clear hN h h'
  go_enter Try.func50, Try.ntmps50
  go_wp2_with fail
  go_loopw [5] (fun i wr => ∃ k : Nat, i = .int .i64 (k : Int) ∧ k ≤ N ∧ Below w.heap.size w wr) (fun i _ => N - (intOf i).toNat)
  case atStart => exact ⟨0, rfl, by omega, Below.refl _ _⟩
  case round =>
    obtain ⟨k, rfl, hk, hb⟩ := hrel
    by_cases hkn : k < N
    · have hkl : k < l.length := by have := HN.out; omega
      have hi1 : (0 : Int) ≤ (k : Int) := by omega
      have hi2 : (k : Int) < (N : Int) := by omega
      obtain ⟨b, o, rfl, hlt, hc⟩ := HI.out.at (by omega)
      obtain ⟨b', o', rfl, hlt', hc'⟩ := HI'.out.at (by omega)
      have lB : b < wr.heap.size := Nat.lt_of_lt_of_le hlt hb.size
      have lB' : b' < wr.heap.size := Nat.lt_of_lt_of_le hlt' hb.size
      have HC := Lib.hid (fun j v hv => (hb.cell (p := ⟨b, _, none⟩) hlt).trans (hc k _ (vlAt_some hkl) j v hv))
      have HC' := Lib.hid (fun j v hv => (hb.cell (p := ⟨b', _, none⟩) hlt').trans (hc' k _ (vlAt_some hkl) j v hv))
      clear hc hc'
      generalize vlAt l k = x at *
      obtain ⟨vk, vn⟩ := x
      unfold vlL at HC HC'
      dsimp only at HC HC'
      go_wp2_with fail
      refine wp_region_quiet (C := fun W => Below wr.heap.size wr W) (by kernel_rfl) (by kernel_rfl) (Below.refl _ _).drew ?_
      dsimp only
      go_big_quiet_want; go_big_quiet_op; first | go_big_quiet_on | (refine ⟨_, fun _ _ => rfl, ?_⟩; go_big_quiet_on)
      go_big_quiet_want; go_big_quiet_op; first | go_big_quiet_on | (refine ⟨_, fun _ _ => rfl, ?_⟩; go_big_quiet_on)
      go_big_quiet_want; go_big_quiet_op; first | go_big_quiet_on | (refine ⟨_, fun _ _ => rfl, ?_⟩; go_big_quiet_on)
      go_big_quiet_want; refine ⟨.agg #[.int .i64 vk, .int .i64 vn], fun W hW => (quietLoadCells 142 (.tmp 19) rfl b (o + k * 2) rfl [.int .i64 vk, .int .i64 vn] (grownCells lB HC.out hW) _ Try.underlying142 rfl (by kernel_rfl)), ?_⟩; simp only [Act.put, List.setIfInBounds_toArray, List.set_cons_zero, List.set_cons_succ]; go_big_quiet_on
      go_big_quiet_want; go_big_quiet_op; first | go_big_quiet_on | (refine ⟨_, fun _ _ => rfl, ?_⟩; go_big_quiet_on)
      go_big_quiet_want; go_big_quiet_op; first | go_big_quiet_on | (refine ⟨_, fun _ _ => rfl, ?_⟩; go_big_quiet_on)
      go_big_quiet_want; go_big_quiet_op; first | go_big_quiet_on | (refine ⟨_, fun _ _ => rfl, ?_⟩; go_big_quiet_on)
      go_big_quiet_want; refine ⟨.agg #[.int .i64 vk, .int .i64 vn], fun W hW => (quietLoadCells 142 (.tmp 23) rfl b' (o' + k * 2) rfl [.int .i64 vk, .int .i64 vn] (grownCells lB' HC'.out hW) _ Try.underlying142 rfl (by kernel_rfl)), ?_⟩; simp only [Act.put, List.setIfInBounds_toArray, List.set_cons_zero, List.set_cons_succ]; go_big_quiet_on
      go_big_quiet_want; refine ⟨.bool false, fun W hW => (by simp [Oper.quietAt, Oper.quietUpon, go_sem]), ?_⟩; simp only [Act.put, List.setIfInBounds_toArray, List.set_cons_zero, List.set_cons_succ]; go_big_quiet_on
      refine wpQuiet_nil ?_
      intro X hX
      go_wp2_with fail
      go_roundw
      case rel => exact ⟨k + 1, by go_num, by omega, hb.trans (hX.mono hb.size)⟩
      case measure => simp [intOf]; omega
    · go_wp2_with fail
      go_ret
      exact ⟨rfl, hb⟩
theorem ba_ne {T : ByteArray} (h : T ≠ ByteArray.mk #[]) : ¬ T.toList = [] := by
  obtain ⟨d⟩ := T
  rw [ByteArray.toList_eq]
  intro e
  apply h
  have : d = #[] := Array.toList_inj.1 e
  rw [this]
set_option maxHeartbeats 2000000 in
theorem lwNumsT_same (a a' : Option Addr) (cap cap' : Nat) (l : List Int) (w : World) (h : NumsIn w a l) (h' : NumsIn w a' l) (hlen : l.length ≤ 1048576) :
    Calls Try.prog 53 #[.slice a l.length cap, .slice a' l.length cap'] w fun e w' => e = .returned (.bool true) ∧ Below w.heap.size w w' := by
  obtain ⟨N, hN⟩ : ∃ N, l.length = N := ⟨_, rfl⟩
  have HN := Lib.hid hN
  rcases Nat.eq_zero_or_pos N with hN0 | hN0
  · rw [hN]
    subst hN0
    clear hN hlen h h'
    go_enter Try.func53, Try.ntmps53
    go_wp2
    refine wp_loop_rounds 1 ?_
    rw [rounds_succ]; go_wp2
    go_ret
    exact ⟨rfl, Below.refl _ _⟩
  obtain ⟨b, o, rfl, hlt, hc⟩ := h.at (by omega)
  obtain ⟨b', o', rfl, hlt', hc'⟩ := h'.at (by omega)
  have HI := Lib.hid hc
  have HI' := Lib.hid hc'
  clear hc hc' h h'
  rw [hN] at hlen ⊢
  clear hN
  go_enter Try.func53, Try.ntmps53
  go_wp2
  go_loopw [5] (fun i wr => ∃ k : Nat, i = .int .i64 (k : Int) ∧ k ≤ N ∧ Below w.heap.size w wr) (fun i _ => N - (intOf i).toNat)
  case atStart => exact ⟨0, rfl, by omega, Below.refl _ _⟩
  case round =>
    obtain ⟨k, rfl, hk, hb⟩ := hrel
    by_cases hkn : k < N
    · have hkl : k < l.length := by have := HN.out; omega
      have d0 := (hb.cell (p := ⟨b, _, none⟩) hlt).trans (HI.out k _ (numAt_some hkl))
      have d1 := (hb.cell (p := ⟨b', _, none⟩) hlt').trans (HI'.out k _ (numAt_some hkl))
      have hi1 : (0 : Int) ≤ (k : Int) := by omega
      have hi2 : (k : Int) < (N : Int) := by omega
      generalize numAt l k = x at *
      go_wp2_with fail
      go_quiet (fail)
      go_wp2
      go_roundw
      case rel => exact ⟨k + 1, by go_num, by omega, ⟨hb.os, hb.tape, hb.output, hb.size, hb.block⟩⟩
      case measure => simp [intOf]; omega
    · go_wp2
      go_ret
      exact ⟨rfl, hb⟩
end Go.Proofs.Ytanijfmfjabmfaa
