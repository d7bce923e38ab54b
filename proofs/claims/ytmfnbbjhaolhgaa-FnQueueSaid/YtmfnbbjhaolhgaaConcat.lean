/- slices.Grow of none and slices.Concat of two rows of Cans: both, in new memory. Nothing that was there is written. -/
import Derived.Test.YtmfnbbjhaolhgaaCansTo
import Derived.Lib.AppendZeros
import Derived.Laws.AppendOwnNone
namespace Go.Proofs.Ytmfnbbjhaolhgaa
open Go.RowKit Go.Joins
set_option linter.unusedVariables false

set_option maxRecDepth 100000 in
set_option maxHeartbeats 1000000 in
theorem grow_any (n : Nat) (w : World) (hn : n ≤ 1048576) :
    Calls Try.prog 75 #[.slice none 0 0, .int .i64 (n : Int)] w fun e w' => ∃ v, e = .returned v ∧ w'.ownsRow w.heap.size 29 2 v 0 [] ∧ Below w.heap.size w w' := by
  obtain ⟨i0, hi, hz0, hz1, hz2⟩ := info_parts CansTo.info
  have hd0 : decide ((n : Int) < 0) = false := decide_eq_false (by omega)
  by_cases h0 : n = 0
  · subst h0
    go_enter Try.func75, Try.ntmps75
    go_wp2_with fail
    go_ret
    exact ⟨_, rfl, World.ownsRow_nil _ _ _ _, Below.refl _ _⟩
  · have hd1 : decide (0 < (n : Int)) = true := decide_eq_true (by omega)
    have hr := fun ty => Lib.run_append_nil_zeros (P := Try.prog) w 23 3 ty 29 i0 _ .i64 .i64 Try.underlying23 Try.underlying3 hi hz0 n (by omega) (by rw [hz1]; omega) (by omega) (by rw [hz2]; omega)
    have hc1 := grownCap_le_maxLen w n 0 29 (by unfold maxLen; omega)
    have hc0 := grownCap_ge w n 0 29
    generalize grownCap w n 0 29 = c at *
    have HR := fun ty => Lib.hid (hr ty)
    have HC := Lib.hid hc1
    have HI := Lib.hid hi
    clear hr hc1 hi
    go_enter Try.func75, Try.ntmps75
    go_wp2_with (at_builtin; refine Lib.wpList_append_run _ rfl (.tmp 20) (.tmp 21) 23 3 rfl _ _ rfl rfl _ _ (HR _).out ?_)
    go_ret
    refine ⟨_, rfl, ⟨rfl, .inr ⟨w.heap.size, c, _, rfl, Nat.le_refl _, heap_alloc_new w _, Nat.zero_le _, HC.out, ?_, by simp⟩⟩, ((Below.refl _ _).alloc (Nat.le_refl _) _).drew⟩
    rw [Array.size_append, size_zeroCells, size_zeroCells]
    simp
    omega

section
variable {P : Program} {w : World}
theorem grownBy_same (w : World) (row : Option Nat) : w.grownBy w row := ⟨rfl, rfl, rfl, Nat.le_refl _, fun _ _ _ => rfl⟩
theorem run_append_owned_nil (base : Nat) (t ty e : TypeId) (i : TypeInfo) (size : Nat) (ht : P.underlying t = some (.slice e)) (hi : P.info? e = some i)
    (v : Value) (n : Nat) (xs : List Value) (hown : w.ownsRow base e size v n xs) (c : Nat) :
    (Builtin.append_ #[t, t] ty #[v, .slice none 0 c]).run P w = .ok v w := by
  rcases hown.2 with ⟨rfl, rfl⟩ | ⟨g, cap, cur, rfl, _, _, hnc, _⟩
  · simp [Builtin.append_, run_underlying ht, sizeOf, typeInfo, hi, Builtin.lenOf, Builtin.firstCells]
  · simp [Builtin.append_, run_underlying ht, sizeOf, typeInfo, hi, Builtin.lenOf, Builtin.firstCells, hnc, storeCells]
/-- append of a row of Cans to a row of the call's own. -/
theorem wpList_append_cans {ops : Array Oper} {rest : List Oper} {o : Oper} {a : Act} {Q : Exit → Act → World → Prop} (hgd : o.guard = none) (s x : Operand) (t : TypeId)
    (ho : o.op = .call { callee := .builtin .append, args := #[s, x], argTypes := #[t, t] })
    (base : Nat) (e : TypeId) (i : TypeInfo) (z : Value) (bytes : Nat) (ht : P.underlying t = some (.slice e)) (hi : P.info? e = some i) (hz : i.zero = some z)
    (hsize : i.size = 2) (hby : i.bytes = bytes) (hzs : z.cells.size = 2)
    (v : Value) (n : Nat) (xs : List Value) (hs : a.eval s = v) (hown : w.ownsRow base e 2 v n xs)
    (ad : Option Addr) (c : Nat) (l : List (Int × ByteArray)) (hx : a.eval x = .slice ad l.length c) (hin : CansIn w ad l)
    (h63 : n + l.length ≤ maxLen) (hbytes : (n + l.length) * bytes ≤ 140737488355328) (hbase : base ≤ w.heap.size)
    (h : ∀ v' w', w'.ownsRow base e 2 v' (n + l.length) (xs ++ ccells l) → w.grownBy w' v.ownBlock → wpList P ops Q rest (a.put o.dst v') w') : wpList P ops Q (o :: rest) a w := by
  rcases ad with _ | ad
  · have hl : l = [] := by
      rcases hin with h | ⟨b, o', h', _⟩
      · exact h
      · cases h'
    subst hl
    refine wpList_plain hgd fun K hK => ?_
    have hrun := run_append_owned_nil (P := P) (w := w) base t o.type e i 2 ht hi v n xs hown c
    unfold Oper.wp
    simp [execOp, ho, resolve, invoke, builtin, hs, hx, hrun, Result.andThen]
    exact hK _ _ (h v w (by simpa [ccells] using hown) (grownBy_same _ _))
  · refine wpList_append_own w hgd s x t ho base e i z 2 bytes ht hi hz hsize hby hzs (by decide) v n xs hs hown ad l.length c (ccells l) hx (ccells_length l) ?_ (ccells_one l) h63 hbytes hbase fun v' w' h1 h2 _ => h v' w' h1 h2
    rcases hin with rfl | ⟨b, o', h', _, hc⟩
    · intro j u hj
      simp [ccells] at hj
    · cases h'
      exact cans_cells hc
theorem run_append_cans (t ty : TypeId) (base : Nat) (e : TypeId) (i : TypeInfo) (z : Value) (bytes : Nat) (ht : P.underlying t = some (.slice e)) (hi : P.info? e = some i) (hz : i.zero = some z)
    (hsize : i.size = 2) (hby : i.bytes = bytes) (hzs : z.cells.size = 2) (v : Value) (n : Nat) (xs : List Value) (hown : w.ownsRow base e 2 v n xs)
    (ad : Option Addr) (c : Nat) (l : List (Int × ByteArray)) (hin : CansIn w ad l) (h63 : n + l.length ≤ maxLen) (hbytes : (n + l.length) * bytes ≤ 140737488355328) (hbase : base ≤ w.heap.size) :
    ∃ v' w', (Builtin.append_ #[t, t] ty #[v, .slice ad l.length c]).run P w = .ok v' w' ∧ w'.ownsRow base e 2 v' (n + l.length) (xs ++ ccells l) ∧ w.grownBy w' v.ownBlock := by
  rcases ad with _ | ad
  · have hl : l = [] := by
      rcases hin with h | ⟨b, o', h', _⟩
      · exact h
      · cases h'
    subst hl
    exact ⟨v, w, run_append_owned_nil (P := P) (w := w) base t ty e i 2 ht hi v n xs hown c, by simpa [ccells] using hown, grownBy_same _ _⟩
  · have hcs : ∀ j u, (ccells l)[j]? = some u → w.cell? (ad.add j) = some u := by
      rcases hin with rfl | ⟨b, o', h', _, hc⟩
      · intro j u hj
        simp [ccells] at hj
      · cases h'
        exact cans_cells hc
    obtain ⟨v', w', h1, h2, h3, _⟩ := run_append_own (P := P) w base t ty e i z 2 bytes ht hi hz hsize hby hzs (by decide) v n xs hown ad l.length c (ccells l) (ccells_length l) hcs (ccells_one l) h63 hbytes hbase
    exact ⟨v', w', h1, h2, h3⟩
/-- At a step of a region that draws its order. -/
theorem step_append_cans {ops : Array Oper} {o : Oper} {a : Act} {K : Act → World → Prop} {Q : Exit → Act → World → Prop} {E : Prop} (hgd : o.guard = none) (s x : Operand) (t : TypeId)
    (ho : o.op = .call { callee := .builtin .append, args := #[s, x], argTypes := #[t, t] })
    (base : Nat) (e : TypeId) (i : TypeInfo) (z : Value) (bytes : Nat) (ht : P.underlying t = some (.slice e)) (hi : P.info? e = some i) (hz : i.zero = some z)
    (hsize : i.size = 2) (hby : i.bytes = bytes) (hzs : z.cells.size = 2)
    (v : Value) (n : Nat) (xs : List Value) (hs : a.eval s = v) (hown : w.ownsRow base e 2 v n xs)
    (ad : Option Addr) (c : Nat) (l : List (Int × ByteArray)) (hx : a.eval x = .slice ad l.length c) (hin : CansIn w ad l)
    (h63 : n + l.length ≤ maxLen) (hbytes : (n + l.length) * bytes ≤ 140737488355328) (hbase : base ≤ w.heap.size)
    (h : ∀ v' w', w'.ownsRow base e 2 v' (n + l.length) (xs ++ ccells l) → w.grownBy w' v.ownBlock → K (a.put o.dst v') w') :
    if Region.wanted o (yielded ops a.tmps) = true then Oper.wp P o a w K Q else E := by
  have hw : Region.wanted o (yielded ops a.tmps) = true := by simp [Region.wanted, hgd]
  rw [if_pos hw]
  obtain ⟨v', w', hr, h2, h3⟩ := run_append_cans (P := P) (w := w) t o.type base e i z bytes ht hi hz hsize hby hzs v n xs hown ad c l hin h63 hbytes hbase
  unfold Oper.wp execOp
  simp only [ho, resolve, invoke, builtin, Sem.run_bind, Sem.run_pure, Result.andThen_ok, List.map_toArray, List.map_cons, List.map_nil, hs, hx, hr]
  exact h v' w' h2 h3
end

theorem flat_succ {L : List (List (Int × ByteArray))} {k : Nat} {l : List (Int × ByteArray)} (h : L[k]? = some l) : (L.take (k + 1)).flatten = (L.take k).flatten ++ l := by
  obtain ⟨hk, rfl⟩ := List.getElem?_eq_some_iff.1 h
  rw [List.take_succ_eq_append_getElem hk, List.flatten_append]
  exact congrArg _ (by rw [List.flatten_cons, List.flatten_nil, List.append_nil])
theorem flat_le {L : List (List (Int × ByteArray))} (k : Nat) : (L.take k).flatten.length ≤ L.flatten.length := by
  have : L.flatten = (L.take k).flatten ++ (L.drop k).flatten := by rw [← List.flatten_append, List.take_append_drop]
  rw [this]
  simp

set_option maxRecDepth 100000 in
set_option maxHeartbeats 2000000 in
theorem concat_any (b o cap : Nat) (L : List (List (Int × ByteArray))) (w : World) (hlt : b < w.heap.size)
    (hrow : ∀ (j : Nat) l, L[j]? = some l → ∃ a c, w.cell? ⟨b, o + j, none⟩ = some (.slice a l.length c) ∧ CansIn w a l) (hlen : L.flatten.length ≤ 1048576) (hL : L.length ≤ 1048576) :
    Calls Try.prog 63 #[.slice (some ⟨b, o, none⟩) L.length cap] w fun e w' => ∃ v, e = .returned v ∧ w'.ownsRow w.heap.size 29 2 v L.flatten.length (ccells L.flatten) ∧ Below w.heap.size w w' := by
  obtain ⟨i0, hi, hz0, hz1, hz2⟩ := info_parts CansTo.info
  have HI := Lib.hid hi
  have HW := Lib.hid hrow
  obtain ⟨N, hN⟩ : ∃ N, L.length = N := ⟨_, rfl⟩
  have HN := Lib.hid hN
  obtain ⟨M, hM⟩ : ∃ M, L.flatten.length = M := ⟨_, rfl⟩
  have HM := Lib.hid hM
  rw [hN] at hL ⊢
  rw [hM] at hlen ⊢
  clear hN hM hrow hi
  go_enter Try.func63, Try.ntmps63
  go_wp2_with fail
  go_loopw [3, 5, 11] (fun u _ i wr => ∃ k m : Nat, i = .int .i64 (k : Int) ∧ u = .int .i64 (m : Int) ∧ k ≤ N ∧ m ≤ M ∧ m = (L.take k).flatten.length ∧ w = wr) (fun _ _ i _ => N - (intOf i).toNat)
  case atStart => exact ⟨0, 0, rfl, rfl, by omega, by omega, by simp, rfl⟩
  case round =>
    obtain ⟨k, m, rfl, rfl, hk, hm, hmk, rfl⟩ := hrel
    have HK := Lib.hid hmk
    clear hmk
    by_cases hkn : k < N
    · obtain ⟨l, hl⟩ : ∃ l, L[k]? = some l := ⟨_, List.getElem?_eq_getElem (by have := HN.out; omega)⟩
      have hfs := flat_succ hl
      have hfl := flat_le (L := L) (k + 1)
      rw [hfs, List.length_append] at hfl
      have hml : m + l.length ≤ M := by have := HK.out; have := HM.out; omega
      have HS := Lib.hid (show m + l.length = (L.take (k + 1)).flatten.length by rw [hfs, List.length_append, ← HK.out])
      obtain ⟨a, c, hcell, hin⟩ := HW.out k l hl
      clear hfs hfl hl hin
      obtain ⟨q, hq⟩ : ∃ q, l.length = q := ⟨_, rfl⟩
      rw [hq] at hcell hml HS
      clear hq
      have hw1 : IntKind.i64.wrap ((m : Int) + (q : Int)) = ((m + q : Nat) : Int) := by rw [IntWalk.i64_in _ (by omega)]; omega
      have hd : decide (((m + q : Nat) : Int) < 0) = false := decide_eq_false (by omega)
      generalize m + q = m2 at *
      go_wp2_with fail
      go_roundw
      case rel => exact ⟨k + 1, m2, by go_num, rfl, by omega, hml, HS.out, by first | exact trivial | rfl⟩
      case measure => simp [intOf]; omega
    · have hge : N ≤ k := by omega
      have hmM : m = M := by
        have := HK.out
        rw [List.take_of_length_le (by have := HN.out; omega)] at this
        have := HM.out
        omega
      subst hmM
      clear hm HK hkn
      go_wp2_with fail
      refine (grow_any m w hlen).mono ?_
      rintro e w1 ⟨v, rfl, hown, h1⟩
      go_wp2_with fail
      have HO := Lib.hid hown
      clear hown
      have hbs1 := h1.size
      go_loopw [6, 8, 27] (fun t _ i w2 => ∃ k n : Nat, i = .int .i64 (k : Int) ∧ k ≤ N ∧ n ≤ m ∧ n = (L.take k).flatten.length ∧ w2.ownsRow w.heap.size 29 2 t n (ccells (L.take k).flatten) ∧ Below w.heap.size w w2) (fun _ _ i _ => N - (intOf i).toNat)
      case atStart => exact ⟨0, 0, rfl, by omega, by omega, by simp, by simpa [ccells] using HO.out, h1⟩
      case round =>
        obtain ⟨k2, n, rfl, hk2, hn, hnk, hown, hb⟩ := hrel
        have HK := Lib.hid hnk
        have HO2 := Lib.hid hown
        have hbs := hb.size
        clear hnk hown
        by_cases hkn2 : k2 < N
        · obtain ⟨l, hl⟩ : ∃ l, L[k2]? = some l := ⟨_, List.getElem?_eq_getElem (by have := HN.out; omega)⟩
          have hfs := flat_succ hl
          have hfl := flat_le (L := L) (k2 + 1)
          rw [hfs, List.length_append] at hfl
          have hml : n + l.length ≤ m := by have := HK.out; have := HM.out; omega
          have HS := Lib.hid (show n + l.length = (L.take (k2 + 1)).flatten.length by rw [hfs, List.length_append, ← HK.out])
          have HF := Lib.hid hfs
          obtain ⟨a, c, hcell, hin⟩ := HW.out k2 l hl
          have hcell2 := (hb.cell (p := ⟨b, o + k2, none⟩) hlt).trans hcell
          have HIN := Lib.hid (hin.kept hb)
          clear hfs hfl hl hin hcell
          obtain ⟨q, hq⟩ : ∃ q, l.length = q := ⟨_, rfl⟩
          have HQ := Lib.hid hq
          rw [hq] at hcell2 hml HS
          clear hq
          go_wp2_with (at_builtin; refine wpList_append_cans rfl (.tmp 31) (.tmp 32) 23 rfl w.heap.size 29 i0 _ 24 Try.underlying23 HI.out hz0 hz1 hz2 rfl _ n _ rfl HO2.out a c l (by rw [HQ.out]; rfl) HIN.out (by rw [HQ.out]; unfold maxLen; omega) (by rw [HQ.out]; omega) hbs ?_; intro v3 w3 hown3 hgrow3)
          go_roundw
          case rel => exact ⟨k2 + 1, n + q, by go_num, by omega, hml, HS.out, by rw [HF.out, ccells_append, ← HQ.out]; exact hown3, hb.grown hgrow3 hbs (fun j hj => (World.ownsRow.lt HO2.out j hj).1)⟩
          case measure => simp [intOf]; omega
        · have hge2 : N ≤ k2 := by omega
          have e := List.take_of_length_le (l := L) (i := k2) (by have := HN.out; omega)
          have HE : Hid (wr.ownsRow w.heap.size 29 2 u6 m (ccells L.flatten)) := Lib.hid (by
            have h2 := HO2.out
            have h3 := HK.out
            rw [e] at h2 h3
            rw [HM.out] at h3
            rwa [h3] at h2)
          clear e HO2 HK
          go_wp2_with fail
          go_ret
          exact ⟨_, rfl, HE.out, hb⟩
end Go.Proofs.Ytmfnbbjhaolhgaa
