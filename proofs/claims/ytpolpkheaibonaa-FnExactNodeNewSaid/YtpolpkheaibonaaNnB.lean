/- Several texts in one, each with its own head: what is proved, and of what, stands there. -/
import Derived.Test.YtpolpkheaibonaaCansTo
import Derived.Lib.AppendZeros
import Derived.Laws.AppendOwnNone
import Derived.Deep.RegionHeld3
import Derived.Test.YtpolpkheaibonaaNnA
import Derived.Test.YtpolpkheaibonaaRsOwn
import Derived.Test.YtpolpkheaibonaaClaimRight
import Derived.Test.YtpolpkheaibonaaIds
import Derived.Test.YtpolpkheaibonaaPutRow
import Derived.Test.YtpolpkheaibonaaNdTo
import Derived.Test.YtpolpkheaibonaaClaimNew
/- slices.Grow of none and slices.Concat of two rows of Cans: both, in new memory. Nothing that was there is written. -/
namespace Go.Proofs.Ytpolpkheaibonaa
open Go.RowKit Go.Joins
set_option linter.unusedVariables false

set_option maxRecDepth 100000 in
set_option maxHeartbeats 1000000 in
theorem grow_any (n : Nat) (w : World) (hn : n ≤ 1048576) :
    Calls Try.prog 194 #[.slice none 0 0, .int .i64 (n : Int)] w fun e w' => ∃ v, e = .returned v ∧ w'.ownsRow w.heap.size 133 2 v 0 [] ∧ Below w.heap.size w w' := by
  obtain ⟨i0, hi, hz0, hz1, hz2⟩ := info_parts CansTo.info
  have hd0 : decide ((n : Int) < 0) = false := decide_eq_false (by omega)
  by_cases h0 : n = 0
  · subst h0
    go_enter Try.func194, Try.ntmps194
    go_wp2_with fail
    go_ret
    exact ⟨_, rfl, World.ownsRow_nil _ _ _ _, Below.refl _ _⟩
  · have hd1 : decide (0 < (n : Int)) = true := decide_eq_true (by omega)
    have hr := fun ty => Lib.run_append_nil_zeros (P := Try.prog) w 61 3 ty 133 i0 _ .i64 .i64 Try.underlying61 Try.underlying3 hi hz0 n (by omega) (by rw [hz1]; omega) (by omega) (by rw [hz2]; omega)
    have hc1 := grownCap_le_maxLen w n 0 133 (by unfold maxLen; omega)
    have hc0 := grownCap_ge w n 0 133
    generalize grownCap w n 0 133 = c at *
    have HR := fun ty => Lib.hid (hr ty)
    have HC := Lib.hid hc1
    have HI := Lib.hid hi
    clear hr hc1 hi
    go_enter Try.func194, Try.ntmps194
    go_wp2_with (at_builtin; refine Lib.wpList_append_run _ rfl (.tmp 20) (.tmp 21) 61 3 rfl _ _ rfl rfl _ _ (HR _).out ?_)
    go_ret
    refine ⟨_, rfl, ⟨rfl, .inr ⟨w.heap.size, c, _, rfl, Nat.le_refl _, heap_alloc_new w _, Nat.zero_le _, HC.out, ?_, by simp⟩⟩, ((Below.refl _ _).alloc (Nat.le_refl _) _).drew⟩
    rw [Array.size_append, size_zeroCells, size_zeroCells]
    simp
    omega

section
variable {P : Program} {w : World}
theorem grownBy_same (w : World) (row : Option Nat) : w.grownBy w row := ⟨rfl, rfl, rfl, Nat.le_refl _, fun _ _ _ => rfl⟩
theorem run_append_owned_nil (base : Nat) (t ty e : TypeId) (i : TypeInfo) (size : Nat) (ht : P.underlying t = some (.slice e)) (hi : P.info? e = some i)
    (v : Value) (n : Nat) (xs : List Value) (hown : w.ownsRow base e size v n xs) (c : Nat) :
    (Builtin.append_ #[t, t] ty #[v, .slice none 0 c]).run P w = .ok v w := by
  rcases hown.2 with ⟨rfl, rfl⟩ | ⟨g, cap, cur, rfl, _, _, hnc, _⟩
  · simp [Builtin.append_, run_underlying ht, sizeOf, typeInfo, hi, Builtin.lenOf, Builtin.firstCells]
  · simp [Builtin.append_, run_underlying ht, sizeOf, typeInfo, hi, Builtin.lenOf, Builtin.firstCells, hnc, storeCells]
/-- append of a row of Cans to a row of the call's own. -/
theorem wpList_append_cans {ops : Array Oper} {rest : List Oper} {o : Oper} {a : Act} {Q : Exit → Act → World → Prop} (hgd : o.guard = none) (s x : Operand) (t : TypeId)
    (ho : o.op = .call { callee := .builtin .append, args := #[s, x], argTypes := #[t, t] })
    (base : Nat) (e : TypeId) (i : TypeInfo) (z : Value) (bytes : Nat) (ht : P.underlying t = some (.slice e)) (hi : P.info? e = some i) (hz : i.zero = some z)
    (hsize : i.size = 2) (hby : i.bytes = bytes) (hzs : z.cells.size = 2)
    (v : Value) (n : Nat) (xs : List Value) (hs : a.eval s = v) (hown : w.ownsRow base e 2 v n xs)
    (ad : Option Addr) (c : Nat) (l : List (Int × ByteArray)) (hx : a.eval x = .slice ad l.length c) (hin : CansIn w ad l)
    (h63 : n + l.length ≤ maxLen) (hbytes : (n + l.length) * bytes ≤ 140737488355328) (hbase : base ≤ w.heap.size)
    (h : ∀ v' w', w'.ownsRow base e 2 v' (n + l.length) (xs ++ ccells l) → w.grownBy w' v.ownBlock → wpList P ops Q rest (a.put o.dst v') w') : wpList P ops Q (o :: rest) a w := by
  rcases ad with _ | ad
  · have hl : l = [] := by
      rcases hin with h | ⟨b, o', h', _⟩
      · exact h
      · cases h'
    subst hl
    refine wpList_plain hgd fun K hK => ?_
    have hrun := run_append_owned_nil (P := P) (w := w) base t o.type e i 2 ht hi v n xs hown c
    unfold Oper.wp
    simp [execOp, ho, resolve, invoke, builtin, hs, hx, hrun, Result.andThen]
    exact hK _ _ (h v w (by simpa [ccells] using hown) (grownBy_same _ _))
  · refine wpList_append_own w hgd s x t ho base e i z 2 bytes ht hi hz hsize hby hzs (by decide) v n xs hs hown ad l.length c (ccells l) hx (ccells_length l) ?_ (ccells_one l) h63 hbytes hbase fun v' w' h1 h2 _ => h v' w' h1 h2
    rcases hin with rfl | ⟨b, o', h', _, hc⟩
    · intro j u hj
      simp [ccells] at hj
    · cases h'
      exact cans_cells hc
theorem run_append_cans (t ty : TypeId) (base : Nat) (e : TypeId) (i : TypeInfo) (z : Value) (bytes : Nat) (ht : P.underlying t = some (.slice e)) (hi : P.info? e = some i) (hz : i.zero = some z)
    (hsize : i.size = 2) (hby : i.bytes = bytes) (hzs : z.cells.size = 2) (v : Value) (n : Nat) (xs : List Value) (hown : w.ownsRow base e 2 v n xs)
    (ad : Option Addr) (c : Nat) (l : List (Int × ByteArray)) (hin : CansIn w ad l) (h63 : n + l.length ≤ maxLen) (hbytes : (n + l.length) * bytes ≤ 140737488355328) (hbase : base ≤ w.heap.size) :
    ∃ v' w', (Builtin.append_ #[t, t] ty #[v, .slice ad l.length c]).run P w = .ok v' w' ∧ w'.ownsRow base e 2 v' (n + l.length) (xs ++ ccells l) ∧ w.grownBy w' v.ownBlock := by
  rcases ad with _ | ad
  · have hl : l = [] := by
      rcases hin with h | ⟨b, o', h', _⟩
      · exact h
      · cases h'
    subst hl
    exact ⟨v, w, run_append_owned_nil (P := P) (w := w) base t ty e i 2 ht hi v n xs hown c, by simpa [ccells] using hown, grownBy_same _ _⟩
  · have hcs : ∀ j u, (ccells l)[j]? = some u → w.cell? (ad.add j) = some u := by
      rcases hin with rfl | ⟨b, o', h', _, hc⟩
      · intro j u hj
        simp [ccells] at hj
      · cases h'
        exact cans_cells hc
    obtain ⟨v', w', h1, h2, h3, _⟩ := run_append_own (P := P) w base t ty e i z 2 bytes ht hi hz hsize hby hzs (by decide) v n xs hown ad l.length c (ccells l) (ccells_length l) hcs (ccells_one l) h63 hbytes hbase
    exact ⟨v', w', h1, h2, h3⟩
/-- At a step of a region that draws its order. -/
theorem step_append_cans {ops : Array Oper} {o : Oper} {a : Act} {K : Act → World → Prop} {Q : Exit → Act → World → Prop} {E : Prop} (hgd : o.guard = none) (s x : Operand) (t : TypeId)
    (ho : o.op = .call { callee := .builtin .append, args := #[s, x], argTypes := #[t, t] })
    (base : Nat) (e : TypeId) (i : TypeInfo) (z : Value) (bytes : Nat) (ht : P.underlying t = some (.slice e)) (hi : P.info? e = some i) (hz : i.zero = some z)
    (hsize : i.size = 2) (hby : i.bytes = bytes) (hzs : z.cells.size = 2)
    (v : Value) (n : Nat) (xs : List Value) (hs : a.eval s = v) (hown : w.ownsRow base e 2 v n xs)
    (ad : Option Addr) (c : Nat) (l : List (Int × ByteArray)) (hx : a.eval x = .slice ad l.length c) (hin : CansIn w ad l)
    (h63 : n + l.length ≤ maxLen) (hbytes : (n + l.length) * bytes ≤ 140737488355328) (hbase : base ≤ w.heap.size)
    (h : ∀ v' w', w'.ownsRow base e 2 v' (n + l.length) (xs ++ ccells l) → w.grownBy w' v.ownBlock → K (a.put o.dst v') w') :
    if Region.wanted o (yielded ops a.tmps) = true then Oper.wp P o a w K Q else E := by
  have hw : Region.wanted o (yielded ops a.tmps) = true := by simp [Region.wanted, hgd]
  rw [if_pos hw]
  obtain ⟨v', w', hr, h2, h3⟩ := run_append_cans (P := P) (w := w) t o.type base e i z bytes ht hi hz hsize hby hzs v n xs hown ad c l hin h63 hbytes hbase
  unfold Oper.wp execOp
  simp only [ho, resolve, invoke, builtin, Sem.run_bind, Sem.run_pure, Result.andThen_ok, List.map_toArray, List.map_cons, List.map_nil, hs, hx, hr]
  exact h v' w' h2 h3
end

theorem flat_succ {L : List (List (Int × ByteArray))} {k : Nat} {l : List (Int × ByteArray)} (h : L[k]? = some l) : (L.take (k + 1)).flatten = (L.take k).flatten ++ l := by
  obtain ⟨hk, rfl⟩ := List.getElem?_eq_some_iff.1 h
  rw [List.take_succ_eq_append_getElem hk, List.flatten_append]
  exact congrArg _ (by rw [List.flatten_cons, List.flatten_nil, List.append_nil])
theorem flat_le {L : List (List (Int × ByteArray))} (k : Nat) : (L.take k).flatten.length ≤ L.flatten.length := by
  have : L.flatten = (L.take k).flatten ++ (L.drop k).flatten := by rw [← List.flatten_append, List.take_append_drop]
  rw [this]
  simp

set_option maxRecDepth 100000 in
set_option maxHeartbeats 2000000 in
theorem concat_any (b o cap : Nat) (L : List (List (Int × ByteArray))) (w : World) (hlt : b < w.heap.size)
    (hrow : ∀ (j : Nat) l, L[j]? = some l → ∃ a c, w.cell? ⟨b, o + j, none⟩ = some (.slice a l.length c) ∧ CansIn w a l) (hlen : L.flatten.length ≤ 1048576) (hL : L.length ≤ 1048576) :
    Calls Try.prog 178 #[.slice (some ⟨b, o, none⟩) L.length cap] w fun e w' => ∃ v, e = .returned v ∧ w'.ownsRow w.heap.size 133 2 v L.flatten.length (ccells L.flatten) ∧ Below w.heap.size w w' := by
  obtain ⟨i0, hi, hz0, hz1, hz2⟩ := info_parts CansTo.info
  have HI := Lib.hid hi
  have HW := Lib.hid hrow
  obtain ⟨N, hN⟩ : ∃ N, L.length = N := ⟨_, rfl⟩
  have HN := Lib.hid hN
  obtain ⟨M, hM⟩ : ∃ M, L.flatten.length = M := ⟨_, rfl⟩
  have HM := Lib.hid hM
  rw [hN] at hL ⊢
  rw [hM] at hlen ⊢
  clear hN hM hrow hi
  go_enter Try.func178, Try.ntmps178
  go_wp2_with fail
  go_loopw [3, 5, 11] (fun u _ i wr => ∃ k m : Nat, i = .int .i64 (k : Int) ∧ u = .int .i64 (m : Int) ∧ k ≤ N ∧ m ≤ M ∧ m = (L.take k).flatten.length ∧ w = wr) (fun _ _ i _ => N - (intOf i).toNat)
  case atStart => exact ⟨0, 0, rfl, rfl, by omega, by omega, by simp, rfl⟩
  case round =>
    obtain ⟨k, m, rfl, rfl, hk, hm, hmk, rfl⟩ := hrel
    have HK := Lib.hid hmk
    clear hmk
    by_cases hkn : k < N
    · obtain ⟨l, hl⟩ : ∃ l, L[k]? = some l := ⟨_, List.getElem?_eq_getElem (by have := HN.out; omega)⟩
      have hfs := flat_succ hl
      have hfl := flat_le (L := L) (k + 1)
      rw [hfs, List.length_append] at hfl
      have hml : m + l.length ≤ M := by have := HK.out; have := HM.out; omega
      have HS := Lib.hid (show m + l.length = (L.take (k + 1)).flatten.length by rw [hfs, List.length_append, ← HK.out])
      obtain ⟨a, c, hcell, hin⟩ := HW.out k l hl
      clear hfs hfl hl hin
      obtain ⟨q, hq⟩ : ∃ q, l.length = q := ⟨_, rfl⟩
      rw [hq] at hcell hml HS
      clear hq
      have hw1 : IntKind.i64.wrap ((m : Int) + (q : Int)) = ((m + q : Nat) : Int) := by rw [IntWalk.i64_in _ (by omega)]; omega
      have hd : decide (((m + q : Nat) : Int) < 0) = false := decide_eq_false (by omega)
      generalize m + q = m2 at *
      go_wp2_with fail
      go_roundw
      case rel => exact ⟨k + 1, m2, by go_num, rfl, by omega, hml, HS.out, by first | exact trivial | rfl⟩
      case measure => simp [intOf]; omega
    · have hge : N ≤ k := by omega
      have hmM : m = M := by
        have := HK.out
        rw [List.take_of_length_le (by have := HN.out; omega)] at this
        have := HM.out
        omega
      subst hmM
      clear hm HK hkn
      go_wp2_with fail
      refine (grow_any m w hlen).mono ?_
      rintro e w1 ⟨v, rfl, hown, h1⟩
      go_wp2_with fail
      have HO := Lib.hid hown
      clear hown
      have hbs1 := h1.size
      go_loopw [6, 8, 27] (fun t _ i w2 => ∃ k n : Nat, i = .int .i64 (k : Int) ∧ k ≤ N ∧ n ≤ m ∧ n = (L.take k).flatten.length ∧ w2.ownsRow w.heap.size 133 2 t n (ccells (L.take k).flatten) ∧ Below w.heap.size w w2) (fun _ _ i _ => N - (intOf i).toNat)
      case atStart => exact ⟨0, 0, rfl, by omega, by omega, by simp, by simpa [ccells] using HO.out, h1⟩
      case round =>
        obtain ⟨k2, n, rfl, hk2, hn, hnk, hown, hb⟩ := hrel
        have HK := Lib.hid hnk
        have HO2 := Lib.hid hown
        have hbs := hb.size
        clear hnk hown
        by_cases hkn2 : k2 < N
        · obtain ⟨l, hl⟩ : ∃ l, L[k2]? = some l := ⟨_, List.getElem?_eq_getElem (by have := HN.out; omega)⟩
          have hfs := flat_succ hl
          have hfl := flat_le (L := L) (k2 + 1)
          rw [hfs, List.length_append] at hfl
          have hml : n + l.length ≤ m := by have := HK.out; have := HM.out; omega
          have HS := Lib.hid (show n + l.length = (L.take (k2 + 1)).flatten.length by rw [hfs, List.length_append, ← HK.out])
          have HF := Lib.hid hfs
          obtain ⟨a, c, hcell, hin⟩ := HW.out k2 l hl
          have hcell2 := (hb.cell (p := ⟨b, o + k2, none⟩) hlt).trans hcell
          have HIN := Lib.hid (hin.kept hb)
          clear hfs hfl hl hin hcell
          obtain ⟨q, hq⟩ : ∃ q, l.length = q := ⟨_, rfl⟩
          have HQ := Lib.hid hq
          rw [hq] at hcell2 hml HS
          clear hq
          go_wp2_with (at_builtin; refine wpList_append_cans rfl (.tmp 31) (.tmp 32) 61 rfl w.heap.size 133 i0 _ 24 Try.underlying61 HI.out hz0 hz1 hz2 rfl _ n _ rfl HO2.out a c l (by rw [HQ.out]; rfl) HIN.out (by rw [HQ.out]; unfold maxLen; omega) (by rw [HQ.out]; omega) hbs ?_; intro v3 w3 hown3 hgrow3)
          go_roundw
          case rel => exact ⟨k2 + 1, n + q, by go_num, by omega, hml, HS.out, by rw [HF.out, ccells_append, ← HQ.out]; exact hown3, hb.grown hgrow3 hbs (fun j hj => (World.ownsRow.lt HO2.out j hj).1)⟩
          case measure => simp [intOf]; omega
        · have hge2 : N ≤ k2 := by omega
          have e := List.take_of_length_le (l := L) (i := k2) (by have := HN.out; omega)
          have HE : Hid (wr.ownsRow w.heap.size 133 2 u6 m (ccells L.flatten)) := Lib.hid (by
            have h2 := HO2.out
            have h3 := HK.out
            rw [e] at h2 h3
            rw [HM.out] at h3
            rwa [h3] at h2)
          clear e HO2 HK
          go_wp2_with fail
          go_ret
          exact ⟨_, rfl, HE.out, hb⟩
end Go.Proofs.Ytpolpkheaibonaa
/- Whether a Queue is right, and what waits in it: the program's and the model's. Nothing that was there is written. -/
namespace Go.Proofs.Ytpolpkheaibonaa
open Go.RowKit
set_option linter.unusedVariables false

/-- That Queue is right. -/
def qRightB (l : List (Int × ByteArray)) : Bool := decide (l.length ≤ 16) && allB l
theorem qRightB_long {l : List (Int × ByteArray)} (h : 16 < l.length) : qRightB l = false := by simp [qRightB]; omega
theorem qRightB_short {l : List (Int × ByteArray)} (h : l.length ≤ 16) : qRightB l = allB l := by simp [qRightB, h]
theorem qRightB_of {l : List (Int × ByteArray)} (h : qRightB l = true) : l.length ≤ 16 ∧ allB l = true := by simpa [qRightB] using h

set_option maxHeartbeats 1000000 in
theorem implQueueRight_any (a : Option Addr) (cap : Nat) (l : List (Int × ByteArray)) (w : World) (h : CansIn w a l) (hok : CansOk l) (hlen : l.length ≤ 1048576) :
    Calls Try.prog 76 #[.agg #[.slice a l.length cap]] w fun e w' => e = .returned (.bool (qRightB l)) ∧ Below w.heap.size w w' := by
  have hb0 := fun o : Obj => (Below.refl w.heap.size w).alloc (Nat.le_refl _) o
  have HB := Lib.hid hb0
  have HC := Lib.hid h
  clear hb0 h
  by_cases h16 : l.length ≤ 16
  · have hd : decide ((l.length : Int) ≤ 16) = true := decide_eq_true (by omega)
    have HQ := Lib.hid (qRightB_short h16)
    have HA := fun W hW => Lib.hid (implAllRight_any a cap l W hW hok hlen)
    clear h16
    go_enter Try.func76, Try.ntmps76
    go_wp2_with fail
    refine (HA _ (HC.out.kept (HB.out _))).out.mono ?_
    rintro e w1 ⟨rfl, h1⟩
    go_wp2
    go_ret
    exact ⟨by rw [HQ.out]; rfl, (HB.out _).trans (h1.mono (by simp))⟩
  · have hd : decide ((l.length : Int) ≤ 16) = false := decide_eq_false (by omega)
    have HQ := Lib.hid (qRightB_long (l := l) (by omega))
    clear h16
    go_enter Try.func76, Try.ntmps76
    go_wp2_with fail
    go_ret
    exact ⟨by rw [HQ.out]; rfl, HB.out _⟩
set_option maxHeartbeats 1000000 in
theorem specQueueRight_any (a : Option Addr) (cap : Nat) (l : List (Int × ByteArray)) (w : World) (h : CansIn w a l) (hok : CansOk l) (hlen : l.length ≤ 1048576) :
    Calls Try.prog 70 #[.agg #[.slice a l.length cap]] w fun e w' => e = .returned (.bool (qRightB l)) ∧ Below w.heap.size w w' := by
  have hb0 := fun o : Obj => (Below.refl w.heap.size w).alloc (Nat.le_refl _) o
  have HB := Lib.hid hb0
  have HC := Lib.hid h
  clear hb0 h
  by_cases h16 : l.length ≤ 16
  · have hd : decide ((l.length : Int) ≤ 16) = true := decide_eq_true (by omega)
    have HQ := Lib.hid (qRightB_short h16)
    have HA := fun W hW => Lib.hid (specAll_any a cap l W hW hok hlen)
    clear h16
    go_enter Try.func70, Try.ntmps70
    go_wp2_with fail
    refine (HA _ (HC.out.kept (HB.out _))).out.mono ?_
    rintro e w1 ⟨rfl, h1⟩
    go_wp2
    go_ret
    exact ⟨by rw [HQ.out]; rfl, (HB.out _).trans (h1.mono (by simp))⟩
  · have hd : decide ((l.length : Int) ≤ 16) = false := decide_eq_false (by omega)
    have HQ := Lib.hid (qRightB_long (l := l) (by omega))
    clear h16
    go_enter Try.func70, Try.ntmps70
    go_wp2_with fail
    go_ret
    exact ⟨by rw [HQ.out]; rfl, HB.out _⟩

set_option maxHeartbeats 1000000 in
theorem waitingIn_any (v : Value) (hv : ∃ a n c, v = .slice a n c) (w : World) :
    Calls Try.prog 136 #[.agg #[v]] w fun e w' => e = .returned (.agg #[v]) ∧ Below w.heap.size w w' := by
  obtain ⟨a, n, c, rfl⟩ := hv
  go_enter Try.func136, Try.ntmps136
  go_wp2
  exact bodyPost_ret (v := .agg #[.slice a n c]) (by simp [results, Try.results136, go_sem]) rfl ⟨rfl, ((Below.refl _ _).alloc (Nat.le_refl _) _).alloc (by simp) _⟩
end Go.Proofs.Ytpolpkheaibonaa
/- What waits and others behind it, or without one: the program's methods with and without. Nothing that was there is written. -/
namespace Go.Proofs.Ytpolpkheaibonaa
open Go.RowKit Go.Joins
set_option linter.unusedVariables false
set_option maxHeartbeats 1000000 in
theorem with_any (a a' : Option Addr) (c c' : Nat) (l l' : List (Int × ByteArray)) (w : World) (h : CansIn w a l) (h' : CansIn w a' l') (hlen : l.length + l'.length ≤ 1048576) :
    Calls Try.prog 160 #[.agg #[.slice a l.length c], .slice a' l'.length c'] w fun e w' => ∃ a2 c2, e = .returned (.agg #[.slice a2 (l ++ l').length c2]) ∧ (l ++ l').length ≤ c2 ∧ NewIn w.heap.size w'.heap.size w' a2 (l ++ l') ∧ Below w.heap.size w w' := by
  have HC := Lib.hid h
  have HC' := Lib.hid h'
  have HX := fun b W hb h0 => Lib.hid (concat_any b 0 2 [l, l'] W hb h0 (by simpa using hlen) (by simp))
  have HL := Lib.hid (show [l, l'].flatten = l ++ l' by simp)
  have HB := Lib.hid (fun o o' : Obj => ((Below.refl w.heap.size w).alloc (Nat.le_refl _) o).alloc (by simp) o')
  clear h h'
  go_enter Try.func160, Try.ntmps160
  go_wp2_with fail
  have hz : 2 < 3 := by decide
  refine (HX _ _ (by simp) (fun j l0 hj => ?_)).out.mono ?_
  · match j, hj with
    | 0, hj =>
      obtain rfl : l = l0 := by simpa using hj
      exact ⟨a, c, by simp [go_sem], HC.out.kept ((HB.out _ _).alloc (by simp; omega) _)⟩
    | 1, hj =>
      obtain rfl : l' = l0 := by simpa using hj
      exact ⟨a', c', by simp [go_sem], HC'.out.kept ((HB.out _ _).alloc (by simp; omega) _)⟩
    | (j + 2), hj => simp at hj
  rintro e w4 ⟨v, rfl, hown, h4⟩
  rw [HL.out] at hown
  obtain ⟨a2, c2, rfl, hle, hnew⟩ := NewIn.of_owns hown
  obtain ⟨c4, f4⟩ := bcell h4
  have z4 : w.heap.size + 1 < w4.heap.size := by have := h4.size; simp at this; omega
  have HN := Lib.hid hnew
  have HE := Lib.hid hle
  clear hown hnew hle
  go_wp2
  refine bodyPost_ret (v := .agg #[.slice a2 (l ++ l').length c2]) (by simp [results, Try.results160, go_sem, c4]) rfl
    ⟨a2, c2, rfl, HE.out, ?_, ((((HB.out _ _).alloc (by simp; omega) _).trans (h4.mono (by simp; omega)))).setCell (by simp) _⟩
  refine NewIn.wide (lo := w.heap.size + 3) (hi := w4.heap.size) ?_ (by omega) (by simp)
  refine NewIn.out (lo' := w.heap.size + 1) (hi' := w.heap.size + 2) (by simpa using HN.out) ((Out.refl _ _ _).setCell (by simp) (by simp) _) (.inr (by omega))

/-- 's[:k]' and 's[k:]' of a row of Cans. -/
theorem slice_head {P : Program} (w : World) (t e : TypeId) (ht : P.underlying t = some (.slice e)) (hs : ∀ W : World, (sizeOf e).run P W = .ok 2 W) (b o n c k : Nat) (hk : k ≤ c) :
    (Instr.sliceAt t (.slice (some ⟨b, o, none⟩) n c) none (some (.int .i64 (k : Int))) none).run P w = .ok (.slice (some ⟨b, o, none⟩) k c) w := by
  have he : P.elem t = e := by simp [Program.elem, ht]
  rw [run_sliceAt_slice w t _ _ _ _ (by rw [he]; exact ht), run_slice_h w t _ _ _ (by rw [he]; exact ht) .i64 (k : Int) (by omega) (by omega), he, hs w]
  simp only [Result.andThen, sliced, Int.toNat_natCast, Nat.sub_zero, Nat.zero_mul]
  split <;> simp [Addr.add]
theorem slice_tail {P : Program} (w : World) (t e : TypeId) (ht : P.underlying t = some (.slice e)) (hs : ∀ W : World, (sizeOf e).run P W = .ok 2 W) (a : Option Addr) (n c k : Nat) (hk : k ≤ n) :
    (Instr.sliceAt t (.slice a n c) (some (.int .i64 (k : Int))) none none).run P w = .ok (.slice (if c = k then a else a.map (·.add (k * 2))) (n - k) (c - k)) w := by
  have he : P.elem t = e := by simp [Program.elem, ht]
  rw [run_sliceAt_slice w t _ _ _ _ (by rw [he]; exact ht), run_slice_l w t _ _ _ (by rw [he]; exact ht) .i64 (k : Int) (by omega) (by omega), he, hs w]
  simp only [Result.andThen, sliced, Int.toNat_natCast]
theorem CansIn.take {w : World} {a : Option Addr} {l : List (Int × ByteArray)} (h : CansIn w a l) (k : Nat) : CansIn w a (l.take k) := by
  rcases h with rfl | ⟨b, o, rfl, hlt, hc⟩
  · exact .inl (by simp)
  · refine .inr ⟨b, o, rfl, hlt, fun i x hx => ?_⟩
    rw [List.getElem?_take] at hx
    split at hx
    · exact hc i x hx
    · cases hx
theorem CansIn.drop {w : World} {a : Option Addr} {l : List (Int × ByteArray)} (h : CansIn w a l) (k c : Nat) (hc : l.length ≤ c) : CansIn w (if c = k then a else a.map (·.add (k * 2))) (l.drop k) := by
  by_cases hk : l.length ≤ k
  · exact .inl (List.drop_of_length_le hk)
  rw [if_neg (by omega)]
  rcases h with rfl | ⟨b, o, rfl, hlt, hc⟩
  · exact .inl (by simp)
  · have e : (⟨b, o, none⟩ : Addr).add (k * 2) = ⟨b, o + k * 2, none⟩ := by unfold Addr.add; split <;> simp_all
    refine .inr ⟨b, o + k * 2, by simp [e], hlt, fun i x hx => ?_⟩
    rw [List.getElem?_drop] at hx
    have := hc _ _ hx
    rw [show o + k * 2 + i * 2 = o + (k + i) * 2 by omega]
    exact this
theorem Queue.sizeOf (W : World) : (sizeOf 133).run Try.prog W = .ok 2 W := by kernel_rfl

theorem rows_two {W : World} {b o : Nat} {l1 l2 : List (Int × ByteArray)} {a1 a2 : Option Addr} {c1 c2 : Nat} (e1 : W.cell? ⟨b, o, none⟩ = some (.slice a1 l1.length c1)) (e2 : W.cell? ⟨b, o + 1, none⟩ = some (.slice a2 l2.length c2)) (h1 : CansIn W a1 l1) (h2 : CansIn W a2 l2) :
    ∀ (j : Nat) l, [l1, l2][j]? = some l → ∃ a c, W.cell? ⟨b, o + j, none⟩ = some (.slice a l.length c) ∧ CansIn W a l := by
  intro j l hj
  match j, hj with
  | 0, hj =>
    obtain rfl : l1 = l := by simpa using hj
    exact ⟨a1, c1, e1, h1⟩
  | 1, hj =>
    obtain rfl : l2 = l := by simpa using hj
    exact ⟨a2, c2, e2, h2⟩
  | (j + 2), hj => simp at hj

end Go.Proofs.Ytpolpkheaibonaa
/- QueuePut, the program's and the model's: all of several behind what waits, or none. Nothing that was there is written. -/
namespace Go.Proofs.Ytpolpkheaibonaa
open Go.RowKit Go.Joins
set_option linter.unusedVariables false

/-- The code of a put. -/
def putCode (q l : List (Int × ByteArray)) : Int := if 400 < l.length then 2 else if qRightB q = false ∨ allB l = false then 1 else if 16 < q.length + l.length then 9 else 0
theorem putCode_size {q l : List (Int × ByteArray)} (h : 400 < l.length) : putCode q l = 2 := if_pos h
theorem putCode_form {q l : List (Int × ByteArray)} (h : ¬ 400 < l.length) (h2 : qRightB q = false ∨ allB l = false) : putCode q l = 1 := by rw [putCode, if_neg h, if_pos h2]
theorem putCode_full {q l : List (Int × ByteArray)} (h : ¬ 400 < l.length) (h1 : qRightB q = true) (h2 : allB l = true) (h3 : 16 < q.length + l.length) : putCode q l = 9 := by
  rw [putCode, if_neg h, if_neg (by rw [h1, h2]; simp), if_pos h3]
theorem putCode_ok {q l : List (Int × ByteArray)} (h : ¬ 400 < l.length) (h1 : qRightB q = true) (h2 : allB l = true) (h3 : ¬ 16 < q.length + l.length) : putCode q l = 0 := by
  rw [putCode, if_neg h, if_neg (by rw [h1, h2]; simp), if_neg h3]
theorem putCode_zero {q l : List (Int × ByteArray)} (h : putCode q l = 0) : ¬ 400 < l.length ∧ qRightB q = true ∧ allB l = true ∧ ¬ 16 < q.length + l.length := by
  unfold putCode at h
  split at h
  · cases h
  split at h
  · cases h
  split at h
  · cases h
  · rename_i h1 h2 h3
    refine ⟨h1, ?_, ?_, h3⟩
    · rcases hq : qRightB q
      · exact absurd (.inl hq) h2
      · rfl
    · rcases hq : allB l
      · exact absurd (.inr hq) h2
      · rfl
/-- What a put leaves. -/
def putL (q l : List (Int × ByteArray)) : List (Int × ByteArray) := if putCode q l = 0 then q ++ l else []

/-- An answer of QueuePut or QueueTake, in new memory. -/
def QOut (w : World) (L : List (Int × ByteArray)) (n : Int) (s : ByteArray) (c : Int) (e : Ending) (w' : World) : Prop :=
  ∃ a cap, e = .returned (.agg #[.slice a L.length cap, .int .i64 n, .string s, .int .i64 c]) ∧ L.length ≤ cap ∧ NewIn w.heap.size w'.heap.size w' a L ∧ Below w.heap.size w w'
/-- A Queue, in new memory. -/
def QNew (w : World) (L : List (Int × ByteArray)) (e : Ending) (w' : World) : Prop :=
  ∃ a cap, e = .returned (.agg #[.slice a L.length cap]) ∧ L.length ≤ cap ∧ NewIn w.heap.size w'.heap.size w' a L ∧ Below w.heap.size w w'

set_option maxHeartbeats 2000000 in
theorem putFault_any (a a' : Option Addr) (c c' : Nat) (q l : List (Int × ByteArray)) (w : World) (h : CansIn w a q) (hok : CansOk q) (hlen : q.length ≤ 1048576) (h' : CansIn w a' l) (hok' : CansOk l) (hlen' : l.length ≤ 1048576) :
    Calls Try.prog 159 #[.agg #[.slice a q.length c], .slice a' l.length c'] w fun e w' => e = .returned (.int .i64 (putCode q l)) ∧ Below w.heap.size w w' := by
  have HB := Lib.hid (fun o : Obj => (Below.refl w.heap.size w).alloc (Nat.le_refl _) o)
  have HQ := fun W hW => Lib.hid (implQueueRight_any a c q W hW hok hlen)
  have HA := fun W hW => Lib.hid (implAllRight_any a' c' l W hW hok' hlen')
  have HC := Lib.hid h
  have HC' := Lib.hid h'
  clear h h' hok hok'
  by_cases h4 : 400 < l.length
  · have hd : decide (400 < (l.length : Int)) = true := decide_eq_true (by omega)
    have HP := Lib.hid (putCode_size (q := q) h4)
    go_enter Try.func159, Try.ntmps159
    go_wp2_with fail
    go_ret
    exact ⟨by rw [HP.out]; rfl, HB.out _⟩
  have hd : decide (400 < (l.length : Int)) = false := decide_eq_false (by omega)
  rcases hq : qRightB q
  · rw [hq] at HQ
    have HP := Lib.hid (putCode_form (l := l) h4 (.inl hq))
    go_enter Try.func159, Try.ntmps159
    go_wp2_with fail
    refine (HQ _ (HC.out.kept (HB.out _))).out.mono ?_
    rintro e w1 ⟨rfl, h1⟩
    go_wp2_with fail
    go_ret
    exact ⟨by rw [HP.out]; rfl, (HB.out _).trans (h1.mono (by simp))⟩
  rw [hq] at HQ
  rcases ha : allB l
  · rw [ha] at HA
    have HP := Lib.hid (putCode_form (q := q) h4 (.inr ha))
    go_enter Try.func159, Try.ntmps159
    go_wp2_with fail
    refine (HQ _ (HC.out.kept (HB.out _))).out.mono ?_
    rintro e w1 ⟨rfl, h1⟩
    have b1 := (HB.out _).trans (h1.mono (by simp))
    go_wp2_with fail
    refine (HA _ (HC'.out.kept b1)).out.mono ?_
    rintro e w2 ⟨rfl, h2⟩
    go_wp2_with fail
    go_ret
    exact ⟨by rw [HP.out]; rfl, b1.trans (h2.mono b1.size)⟩
  rw [ha] at HA
  have hw : IntKind.i64.wrap ((q.length : Int) + (l.length : Int)) = (q.length : Int) + l.length := IntWalk.i64_in _ (by omega)
  obtain ⟨d, hd2⟩ : ∃ d : Bool, decide (16 < (q.length : Int) + (l.length : Int)) = d := ⟨_, rfl⟩
  have HP : Hid (putCode q l = if d then 9 else 0) := Lib.hid (by
    by_cases h3 : 16 < q.length + l.length
    · rw [putCode_full h4 hq ha h3, ← hd2, decide_eq_true (by omega)]; rfl
    · rw [putCode_ok h4 hq ha h3, ← hd2, decide_eq_false (by omega)]; rfl)
  cases d
  all_goals
    go_enter Try.func159, Try.ntmps159
    go_wp2_with fail
    refine (HQ _ (HC.out.kept (HB.out _))).out.mono ?_
    rintro e w1 ⟨rfl, h1⟩
    have b1 := (HB.out _).trans (h1.mono (by simp))
    have e1 : w1.cell? ⟨w.heap.size, 0, none⟩ = some (.slice a q.length c) := (h1.cell (p := ⟨w.heap.size, 0, none⟩) (by simp)).trans (by simp [go_sem])
    have s1 : w.heap.size < w1.heap.size := by have := h1.size; simp at this; omega
    go_wp2_with fail
    refine (HA _ (HC'.out.kept b1)).out.mono ?_
    rintro e w2 ⟨rfl, h2⟩
    have e2 := (h2.cell (p := ⟨w.heap.size, 0, none⟩) s1).trans e1
    go_wp2_with fail
    go_ret
    exact ⟨by rw [HP.out]; rfl, b1.trans (h2.mono b1.size)⟩
set_option maxRecDepth 100000 in
set_option maxHeartbeats 4000000 in
theorem implQueuePut_any (a a' : Option Addr) (c c' : Nat) (q l : List (Int × ByteArray)) (w : World) (h : CansIn w a q) (hok : CansOk q) (hlen : q.length ≤ 1048576) (h' : CansIn w a' l) (hok' : CansOk l) (hlen' : l.length ≤ 1048576) :
    Calls Try.prog 132 #[.agg #[.slice a q.length c], .slice a' l.length c'] w (QOut w (putL q l) 0 ⟨#[]⟩ (putCode q l)) := by
  have HB := Lib.hid (fun o o' : Obj => ((Below.refl w.heap.size w).alloc (Nat.le_refl _) o).alloc (by simp) o')
  have HF := fun W hW hW' => Lib.hid (putFault_any a a' c c' q l W hW hok hlen hW' hok' hlen')
  have HC := Lib.hid h
  have HC' := Lib.hid h'
  clear h h' hok hok'
  by_cases hz : putCode q l = 0
  · rw [hz] at HF ⊢
    have hL : putL q l = q ++ l := if_pos hz
    rw [hL]
    obtain ⟨g1, g2, g3, g4⟩ := putCode_zero hz
    have HSM : Hid (CansSmall (q ++ l)) := Lib.hid (by
      intro x hx
      rcases List.mem_append.1 hx with hx | hx
      · exact CansSmall.of_all (qRightB_of g2).2 x hx
      · exact CansSmall.of_all g3 x hx)
    have HL := Lib.hid (show (q ++ l).length ≤ 1048576 by simp; omega)
    have HL2 := Lib.hid (show q.length + l.length ≤ 1048576 by omega)
    have HW := fun W h h' => Lib.hid (with_any a a' c c' q l W h h' (by omega))
    clear g1 g2 g3 g4 hz hL
    obtain ⟨L, hLL⟩ : ∃ L, q ++ l = L := ⟨_, rfl⟩
    rw [hLL] at HW HSM HL ⊢
    clear hLL HL2
    go_enter Try.func132, Try.ntmps132
    go_wp2_with fail
    refine (HF _ (HC.out.kept (HB.out _ _)) (HC'.out.kept (HB.out _ _))).out.mono ?_
    rintro e w1 ⟨rfl, h1⟩
    have b1 := (HB.out _ _).trans (h1.mono (by simp; omega))
    have HA := Lib.hid (((RowAt.new w #[.slice a q.length c] 63).alloc _).kept h1)
    have HR := (RowAt.new _ _ _).kept h1
    simp only [World.size_alloc] at HR
    have HR := Lib.hid HR
    have e1 := HA.out.get 0 _ rfl
    clear h1
    go_wp2_with fail
    refine (waitingIn_any _ ⟨_, _, _, rfl⟩ _).mono ?_
    rintro e w2 ⟨rfl, h2⟩
    have b2 := b1.trans (h2.mono b1.size)
    have HR2 := Lib.hid (HR.out.kept h2)
    clear h2 e1 HR
    go_wp2_with fail
    refine (HW _ (HC.out.kept b2) (HC'.out.kept b2)).out.mono ?_
    rintro e w3 ⟨a3, c3, rfl, hc3, hn3, h3⟩
    have b3 := b2.trans (h3.mono b2.size)
    have HR3 := Lib.hid (HR2.out.kept h3)
    have HN3 := Lib.hid hn3
    clear h3 HR2 hn3 hc3
    go_wp2_with fail
    refine (freshQueue_any a3 c3 L _ HN3.out.cans HSM.out HL.out).mono ?_
    rintro e w4 ⟨a4, c4, rfl, hc4, hn4, h4⟩
    have b4 := b3.trans (h4.mono b3.size)
    have HR4 := Lib.hid (HR3.out.kept h4)
    have hlo := b3.size
    have HN4 := Lib.hid hn4
    have HC4 := Lib.hid hc4
    have hR := HR3.out.lt
    clear h4 HR3 HN3 hn4 hc4
    have x0 := HR4.out.get 0 _ rfl
    have x1 := HR4.out.get 1 _ rfl
    have x2 := HR4.out.get 2 _ rfl
    have x3 := HR4.out.get 3 _ rfl
    have y := HR4.out.free
    clear HA HR4 HL HSM
    go_wp2
    refine bodyPost_ret (v := .agg #[.slice a4 L.length c4, .int .i64 0, .string ⟨#[]⟩, .int .i64 0]) (by simp [results, Try.results132, go_sem, x0, x1, x2, x3]) rfl
      ⟨a4, c4, rfl, HC4.out, ?_, (((b4.setCell (by simp) _).setCell (by simp) _).setCell (by simp) _).setCell (by simp) _⟩
    refine NewIn.wide (lo := w3.heap.size) (hi := w4.heap.size) (NewIn.out (lo' := w.heap.size + 1) (hi' := w.heap.size + 2) HN4.out ?_ (.inr (by omega))) (by omega) (by simp)
    exact ((((Out.refl _ _ _).setCell (by simp) (by simp) _).setCell (by simp) (by simp) _).setCell (by simp) (by simp) _).setCell (by simp) (by simp) _
  · have hL : putL q l = [] := if_neg hz
    rw [hL]
    obtain ⟨k, hk⟩ : ∃ k, putCode q l = k := ⟨_, rfl⟩
    rw [hk] at HF hz ⊢
    have hd : (k == 0) = false := beq_eq_false_iff_ne.2 hz
    clear hk hL hz
    go_enter Try.func132, Try.ntmps132
    go_wp2_with fail
    refine (HF _ (HC.out.kept (HB.out _ _)) (HC'.out.kept (HB.out _ _))).out.mono ?_
    rintro e w1 ⟨rfl, h1⟩
    have b1 := (HB.out _ _).trans (h1.mono (by simp; omega))
    have HR := Lib.hid ((RowAt.new _ _ _).kept h1)
    clear h1
    have x0 := HR.out.get 0 _ rfl
    have x1 := HR.out.get 1 _ rfl
    have x2 := HR.out.get 2 _ rfl
    have x3 := HR.out.get 3 _ rfl
    have y := HR.out.free
    simp only [World.size_alloc] at x0 x1 x2 x3 y
    clear HR
    go_wp2
    exact bodyPost_ret (v := .agg #[.slice none 0 0, .int .i64 0, .string ⟨#[]⟩, .int .i64 k]) (by simp [results, Try.results132, go_sem, x0, x1, x2, x3]) rfl
      ⟨none, 0, rfl, Nat.le_refl _, .inl rfl, (((b1.setCell (by simp) _).setCell (by simp) _).setCell (by simp) _).setCell (by simp) _⟩
end Go.Proofs.Ytpolpkheaibonaa
/- QueuePut's answer said with its type; a literal of one struct in a region of any order. -/
namespace Go.Proofs.Ytpolpkheaibonaa
open Go.RowKit Go.Joins
set_option linter.unusedVariables false

section
variable {P : Program} {o : Oper} {a : Act} {w : World} {K : Act → World → Prop} {Q : Exit → Act → World → Prop}
theorem ob_lit1_row {size : Nat} (t : TypeId) (y : Operand) (ho : o.op = .buildSlice t 1 #[(0, y)]) (e : TypeId) (i : TypeInfo) (ht : P.underlying t = some (.slice e)) (hi : P.info? e = some i)
    (z : Value) (hz : i.zero = some z) (hsize : i.size = size) (cs : List Value) (v : Value) (hy : a.eval y = v) (hv : v.cells = cs.toArray) (hc : cs.length = size) (hzs : z.cells.size = size) (hsz : 0 < size) (hmax : size ≤ 16777216)
    (h : K (a.put o.dst (.slice (some ⟨w.heap.size, 0, none⟩) 1 1)) (w.alloc (.cells cs.toArray e))) : o.wp P a w K Q := by
  unfold Oper.wp execOp
  simp [ho, Instr.buildSlice, run_underlying ht, sizeOf, typeInfo, hi, hz, zeroValue, Instr.fill, newRow, -run_newObj, Result.andThen_ok, hy, hv, hc, hsize, show ¬ 16777216 < size by omega, show ¬ size = 0 by omega]
  rw [fold_set _ _ 0 (by simp [hc])]
  simp [-run_newObj]
  exact h
end
/-- QueuePut's answer, its list said with its type. -/
def QOutN (w : World) (L : List (Int × ByteArray)) (c : Int) (e : Ending) (w' : World) : Prop :=
  ∃ a cap, e = .returned (.agg #[.slice a L.length cap, .int .i64 0, .string ⟨#[]⟩, .int .i64 c]) ∧ RsNew canL 2 133 w.heap.size w'.heap.size w' a L ∧ Below w.heap.size w w'
set_option maxRecDepth 100000 in
set_option maxHeartbeats 4000000 in
theorem implQueuePut_new (a a' : Option Addr) (c c' : Nat) (q l : List (Int × ByteArray)) (w : World) (h : CansIn w a q) (hok : CansOk q) (hlen : q.length ≤ 1048576) (h' : CansIn w a' l) (hok' : CansOk l) (hlen' : l.length ≤ 1048576) :
    Calls Try.prog 132 #[.agg #[.slice a q.length c], .slice a' l.length c'] w (QOutN w (putL q l) (putCode q l)) := by
  have HB := Lib.hid (fun o o' : Obj => ((Below.refl w.heap.size w).alloc (Nat.le_refl _) o).alloc (by simp) o')
  have HF := fun W hW hW' => Lib.hid (putFault_any a a' c c' q l W hW hok hlen hW' hok' hlen')
  have HC := Lib.hid h
  have HC' := Lib.hid h'
  clear h h' hok hok'
  by_cases hz : putCode q l = 0
  · rw [hz] at HF ⊢
    have hL : putL q l = q ++ l := if_pos hz
    rw [hL]
    obtain ⟨g1, g2, g3, g4⟩ := putCode_zero hz
    have HSM : Hid (CansSmall (q ++ l)) := Lib.hid (by
      intro x hx
      rcases List.mem_append.1 hx with hx | hx
      · exact CansSmall.of_all (qRightB_of g2).2 x hx
      · exact CansSmall.of_all g3 x hx)
    have HL := Lib.hid (show (q ++ l).length ≤ 1048576 by simp; omega)
    have HL2 := Lib.hid (show q.length + l.length ≤ 1048576 by omega)
    have HW := fun W h h' => Lib.hid (with_any a a' c c' q l W h h' (by omega))
    clear g1 g2 g3 g4 hz hL
    obtain ⟨L, hLL⟩ : ∃ L, q ++ l = L := ⟨_, rfl⟩
    rw [hLL] at HW HSM HL ⊢
    clear hLL HL2
    go_enter Try.func132, Try.ntmps132
    go_wp2_with fail
    refine (HF _ (HC.out.kept (HB.out _ _)) (HC'.out.kept (HB.out _ _))).out.mono ?_
    rintro e w1 ⟨rfl, h1⟩
    have b1 := (HB.out _ _).trans (h1.mono (by simp; omega))
    have HA := Lib.hid (((RowAt.new w #[.slice a q.length c] 63).alloc _).kept h1)
    have HR := (RowAt.new _ _ _).kept h1
    simp only [World.size_alloc] at HR
    have HR := Lib.hid HR
    have e1 := HA.out.get 0 _ rfl
    clear h1
    go_wp2_with fail
    refine (waitingIn_any _ ⟨_, _, _, rfl⟩ _).mono ?_
    rintro e w2 ⟨rfl, h2⟩
    have b2 := b1.trans (h2.mono b1.size)
    have HR2 := Lib.hid (HR.out.kept h2)
    clear h2 e1 HR
    go_wp2_with fail
    refine (HW _ (HC.out.kept b2) (HC'.out.kept b2)).out.mono ?_
    rintro e w3 ⟨a3, c3, rfl, hc3, hn3, h3⟩
    have b3 := b2.trans (h3.mono b2.size)
    have HR3 := Lib.hid (HR2.out.kept h3)
    have HN3 := Lib.hid hn3
    clear h3 HR2 hn3 hc3
    go_wp2_with fail
    refine (freshQueue_new a3 c3 L _ HN3.out.cans HSM.out HL.out).mono ?_
    rintro e w4 ⟨a4, rfl, hn4, h4⟩
    have b4 := b3.trans (h4.mono b3.size)
    have HR4 := Lib.hid (HR3.out.kept h4)
    have hlo := b3.size
    have HN4 := Lib.hid hn4
    have hR := HR3.out.lt
    clear h4 HR3 HN3 hn4
    have x0 := HR4.out.get 0 _ rfl
    have x1 := HR4.out.get 1 _ rfl
    have x2 := HR4.out.get 2 _ rfl
    have x3 := HR4.out.get 3 _ rfl
    have y := HR4.out.free
    clear HA HR4 HL HSM
    go_wp2
    refine bodyPost_ret (v := .agg #[.slice a4 L.length L.length, .int .i64 0, .string ⟨#[]⟩, .int .i64 0]) (by simp [results, Try.results132, go_sem, x0, x1, x2, x3]) rfl
      ⟨a4, _, rfl, ?_, (((b4.setCell (by simp) _).setCell (by simp) _).setCell (by simp) _).setCell (by simp) _⟩
    refine RsNew.wide (lo := w3.heap.size) (hi := w4.heap.size) (RsNew.out (lo' := w.heap.size + 1) (hi' := w.heap.size + 2) HN4.out ?_ (.inr (by omega))) (by omega) (by simp)
    exact ((((Out.refl _ _ _).setCell (by simp) (by simp) _).setCell (by simp) (by simp) _).setCell (by simp) (by simp) _).setCell (by simp) (by simp) _
  · have hL : putL q l = [] := if_neg hz
    rw [hL]
    obtain ⟨k, hk⟩ : ∃ k, putCode q l = k := ⟨_, rfl⟩
    rw [hk] at HF hz ⊢
    have hd : (k == 0) = false := beq_eq_false_iff_ne.2 hz
    clear hk hL hz
    go_enter Try.func132, Try.ntmps132
    go_wp2_with fail
    refine (HF _ (HC.out.kept (HB.out _ _)) (HC'.out.kept (HB.out _ _))).out.mono ?_
    rintro e w1 ⟨rfl, h1⟩
    have b1 := (HB.out _ _).trans (h1.mono (by simp; omega))
    have HR := Lib.hid ((RowAt.new _ _ _).kept h1)
    clear h1
    have x0 := HR.out.get 0 _ rfl
    have x1 := HR.out.get 1 _ rfl
    have x2 := HR.out.get 2 _ rfl
    have x3 := HR.out.get 3 _ rfl
    have y := HR.out.free
    simp only [World.size_alloc] at x0 x1 x2 x3 y
    clear HR
    go_wp2
    exact bodyPost_ret (v := .agg #[.slice none 0 0, .int .i64 0, .string ⟨#[]⟩, .int .i64 k]) (by simp [results, Try.results132, go_sem, x0, x1, x2, x3]) rfl
      ⟨none, 0, rfl, .inl rfl, (((b1.setCell (by simp) _).setCell (by simp) _).setCell (by simp) _).setCell (by simp) _⟩
end Go.Proofs.Ytpolpkheaibonaa
/- Whether a Claim is right: the program's. Nothing that was there is written. -/
namespace Go.Proofs.Ytpolpkheaibonaa
open Go.RowKit
set_option linter.unusedVariables false

/-- What its state asks of an address and of what is left. -/
def stB (ad st lf : Int) : Bool :=
  if st = 1 then inB 0 251 ad && inB 1 250 lf else if st = 2 then inB 0 251 ad && decide (lf = 0) else if st = 3 then decide (ad = 254) && decide (lf = 0) else false
theorem stB_eq (c : Cl) : stateB c = stB c.ad c.st c.lf := rfl
set_option maxRecDepth 100000 in
set_option maxHeartbeats 2000000 in
theorem stateRight_any (n : Nm) (ad st lf : Int) (v : Value) (w : World) :
    Calls Try.prog 119 #[clV n ad st lf v] w fun e w' => e = .returned (.bool (stB ad st lf)) ∧ Below w.heap.size w w' := by
  obtain ⟨n0, n1, n2, n3, n4, n5, n6, n7⟩ := n
  unfold clV
  dsimp only
  obtain ⟨R, hR⟩ : ∃ R, stB ad st lf = R := ⟨_, rfl⟩
  have HS := Lib.hid (show (if st = 1 then inB 0 251 ad && inB 1 250 lf else if st = 2 then inB 0 251 ad && decide (lf = 0) else if st = 3 then decide (ad = 254) && decide (lf = 0) else false) = R from hR)
  rw [hR]
  clear hR
  have HA := fun W => Lib.hid (from0_any ad 251 W)
  by_cases s1 : st = 1
  · subst s1
    rcases ha : inB 0 251 ad
    · have HO := Lib.hid (show R = false by rw [← HS.out, if_pos rfl, ha]; rfl)
      rw [ha] at HA
      clear HS ha
      go_enter Try.func119, Try.ntmps119
      go_wp2_with (go_at_call 48; refine (HA _).out.mono ?_; rintro e w' ⟨rfl, rfl⟩)
      go_ret
      exact ⟨by rw [HO.out]; rfl, (Below.refl _ _).alloc (Nat.le_refl _) _⟩
    rw [ha] at HA
    have HL := HS.out
    rw [if_pos rfl, ha, Bool.true_and] at HL
    clear HS ha
    by_cases h1 : 1 ≤ lf
    · have hd : decide (1 ≤ lf) = true := decide_eq_true h1
      have HO := Lib.hid (show R = decide (lf ≤ 250) by rw [← HL]; simp [inB, hd])
      clear HL h1
      go_enter Try.func119, Try.ntmps119
      go_wp2_with (go_at_call 48; refine (HA _).out.mono ?_; rintro e w' ⟨rfl, rfl⟩)
      go_ret
      exact ⟨by rw [HO.out]; rfl, (Below.refl _ _).alloc (Nat.le_refl _) _⟩
    · have hd : decide (1 ≤ lf) = false := decide_eq_false h1
      have HO := Lib.hid (show R = false by rw [← HL]; simp [inB, hd])
      clear HL h1
      go_enter Try.func119, Try.ntmps119
      go_wp2_with (go_at_call 48; refine (HA _).out.mono ?_; rintro e w' ⟨rfl, rfl⟩)
      go_ret
      exact ⟨by rw [HO.out]; rfl, (Below.refl _ _).alloc (Nat.le_refl _) _⟩
  have hs1 : (st == 1) = false := by simpa using s1
  by_cases s2 : st = 2
  · subst s2
    rcases ha : inB 0 251 ad
    · have HO := Lib.hid (show R = false by rw [← HS.out, if_neg s1, if_pos rfl, ha]; rfl)
      rw [ha] at HA
      clear HS ha s1
      go_enter Try.func119, Try.ntmps119
      go_wp2_with (go_at_call 48; refine (HA _).out.mono ?_; rintro e w' ⟨rfl, rfl⟩)
      go_ret
      exact ⟨by rw [HO.out]; rfl, (Below.refl _ _).alloc (Nat.le_refl _) _⟩
    rw [ha] at HA
    have HL := HS.out
    rw [if_neg s1, if_pos rfl, ha, Bool.true_and] at HL
    clear HS ha s1
    by_cases h1 : 0 ≤ lf
    · have hd : decide (0 ≤ lf) = true := decide_eq_true h1
      have HO := Lib.hid (show R = decide (lf ≤ 0) by rw [← HL]; exact decide_eq_decide.2 (by omega))
      clear HL h1
      go_enter Try.func119, Try.ntmps119
      go_wp2_with (go_at_call 48; refine (HA _).out.mono ?_; rintro e w' ⟨rfl, rfl⟩)
      go_ret
      exact ⟨by rw [HO.out]; rfl, (Below.refl _ _).alloc (Nat.le_refl _) _⟩
    · have hd : decide (0 ≤ lf) = false := decide_eq_false h1
      have HO := Lib.hid (show R = false by rw [← HL]; exact decide_eq_false (by omega))
      clear HL h1
      go_enter Try.func119, Try.ntmps119
      go_wp2_with (go_at_call 48; refine (HA _).out.mono ?_; rintro e w' ⟨rfl, rfl⟩)
      go_ret
      exact ⟨by rw [HO.out]; rfl, (Below.refl _ _).alloc (Nat.le_refl _) _⟩
  have hs2 : (st == 2) = false := by simpa using s2
  by_cases s3 : st = 3
  · subst s3
    by_cases ha : ad = 254
    · subst ha
      have HO := Lib.hid (show R = (lf == 0) by rw [← HS.out, if_neg s1, if_neg s2, if_pos rfl]; simp; exact (Bool.beq_eq_decide_eq lf 0).symm)
      clear HS s1 s2
      go_enter Try.func119, Try.ntmps119
      go_wp2
      go_ret
      exact ⟨by rw [HO.out]; rfl, (Below.refl _ _).alloc (Nat.le_refl _) _⟩
    · have hd : (ad == 254) = false := by simpa using ha
      have HO := Lib.hid (show R = false by rw [← HS.out, if_neg s1, if_neg s2, if_pos rfl]; simp [ha])
      clear HS s1 s2 ha
      go_enter Try.func119, Try.ntmps119
      go_wp2
      go_ret
      exact ⟨by rw [HO.out]; rfl, (Below.refl _ _).alloc (Nat.le_refl _) _⟩
  · have hs3 : (st == 3) = false := by simpa using s3
    have HO := Lib.hid (show R = false by rw [← HS.out, if_neg s1, if_neg s2, if_neg s3])
    clear HS s1 s2 s3
    go_enter Try.func119, Try.ntmps119
    go_wp2
    go_ret
    exact ⟨by rw [HO.out]; rfl, (Below.refl _ _).alloc (Nat.le_refl _) _⟩
set_option maxRecDepth 100000 in
set_option maxHeartbeats 2000000 in
theorem takenRight_any (a : Option Addr) (cap : Nat) (l : List Int) (w : World) (h : NumsIn w a l) (hlen : l.length ≤ 1048576) :
    Calls Try.prog 120 #[.slice a l.length cap] w fun e w' => e = .returned (.bool (riseB (-1) l)) ∧ w = w' := by
  obtain ⟨R, hR⟩ : ∃ R, riseB (-1) l = R := ⟨_, rfl⟩
  have HR := Lib.hid (show riseB (pvI l 0) (l.drop 0) = R from hR)
  rw [hR]
  clear hR
  obtain ⟨N, hN⟩ : ∃ N, l.length = N := ⟨_, rfl⟩
  have HN := Lib.hid hN
  rw [hN] at hlen ⊢
  clear hN
  have HI := Lib.hid h
  clear h
  go_enter Try.func120, Try.ntmps120
  go_wp2_with fail
  go_loopw [3, 8] (fun p i wr => ∃ (k : Nat) (m : Int), i = .int .i64 (k : Int) ∧ p = .int .i64 m ∧ m = pvI l k + 1 ∧ 0 ≤ m ∧ k ≤ N ∧ riseB (pvI l k) (l.drop k) = R ∧ w = wr) (fun _ i _ => N - (intOf i).toNat)
  case atStart => exact ⟨0, 0, rfl, rfl, rfl, by omega, by omega, HR.out, rfl⟩
  case round =>
    obtain ⟨k, m, rfl, rfl, hm, hm0, hk, hr, rfl⟩ := hrel
    have HM := Lib.hid hm
    have HK := Lib.hid hr
    clear hm hr HR
    by_cases hkn : k < N
    · have hkl : k < l.length := by have := HN.out; omega
      obtain ⟨b, o, rfl, hlt, hc⟩ := HI.out.at (by omega)
      have d0 := hc k _ (numAt_some hkl)
      have hi1 : (0 : Int) ≤ (k : Int) := by omega
      have hi2 : (k : Int) < (N : Int) := by omega
      have HT := Lib.hid (riseB_step hkl)
      have hx : pvI l (k + 1) = numAt l k := by simp [pvI]
      obtain ⟨x, hxx⟩ : ∃ x, numAt l k = x := ⟨_, rfl⟩
      rw [hxx] at d0 hx
      have HX := Lib.hid hx
      have HXX := Lib.hid hxx
      clear hc hx hxx
      by_cases h1 : x < m
      · have hd : decide (x < m) = true := decide_eq_true h1
        have HO := Lib.hid (show R = false by
          rw [← HK.out, HT.out, HXX.out]
          simp only [Bool.and_eq_false_iff]
          exact .inr (.inl (decide_eq_false (by have := HM.out; omega))))
        clear h1
        go_wp2_with fail
        go_ret
        exact ⟨by rw [HO.out]; rfl, rfl⟩
      have hd : decide (x < m) = false := decide_eq_false h1
      by_cases h2 : 251 < x
      · have hd2 : decide (251 < x) = true := decide_eq_true h2
        have HO := Lib.hid (show R = false by
          rw [← HK.out, HT.out, HXX.out, inB_no (by omega)]
          rfl)
        clear h1 h2
        go_wp2_with fail
        go_ret
        exact ⟨by rw [HO.out]; rfl, rfl⟩
      have hd2 : decide (251 < x) = false := decide_eq_false h2
      have hw : IntKind.i64.wrap (x + 1) = x + 1 := IntWalk.i64_in _ (by omega)
      have HN2 := Lib.hid (show riseB (pvI l (k + 1)) (l.drop (k + 1)) = R by
        rw [← HK.out, HT.out, HXX.out, inB_yes (by omega) (by omega), decide_eq_true (by have := HM.out; omega)]
        rfl)
      go_wp2_with fail
      go_roundw
      case rel => exact ⟨k + 1, x + 1, by go_num, rfl, by rw [HX.out], by omega, by omega, HN2.out, by first | rfl | trivial⟩
      case measure => simp [intOf]; omega
    · have hge : N ≤ k := by omega
      have HO := Lib.hid (show R = true by
        rw [← HK.out, List.drop_eq_nil_of_le (by have := HN.out; omega)]
        rfl)
      go_wp2_with fail
      go_ret
      exact ⟨by rw [HO.out]; rfl, rfl⟩
set_option maxRecDepth 100000 in
set_option maxHeartbeats 2000000 in
theorem implClaimRight_any (n : Nm) (ad st lf : Int) (a : Option Addr) (cap : Nat) (l : List Int) (w : World) (h : NumsIn w a l) (hlen : l.length ≤ 1048576) :
    Calls Try.prog 75 #[clV n ad st lf (.slice a l.length cap)] w fun e w' => e = .returned (.bool (clB ⟨n, ad, st, lf, l⟩)) ∧ Below w.heap.size w w' := by
  have HN := fun W => Lib.hid (implNameOk_any n W)
  have HS := fun W => Lib.hid (stateRight_any n ad st lf (.slice a l.length cap) W)
  have HT := fun W hW => Lib.hid (takenRight_any a cap l W hW hlen)
  have HI := Lib.hid h
  obtain ⟨R, hR⟩ : ∃ R, clB ⟨n, ad, st, lf, l⟩ = R := ⟨_, rfl⟩
  have HR := Lib.hid (show (okB n && (stB ad st lf && riseB (-1) l)) = R by
    rw [← hR]
    unfold clB
    rw [stB_eq]
    dsimp only
    rcases hq : riseB (-1) l
    · simp
    · have := riseB_len hq (by omega)
      rw [decide_eq_true (show l.length ≤ 252 by omega)]
      cases okB n <;> cases stB ad st lf <;> rfl)
  rw [hR]
  clear hR h
  generalize okB n = v0 at *
  generalize stB ad st lf = v1 at *
  generalize riseB (-1) l = v2 at *
  generalize l.length = N at *
  obtain ⟨n0, n1, n2, n3, n4, n5, n6, n7⟩ := n
  unfold clV at *
  unfold nmV at *
  dsimp only at *
  have b0 : Below w.heap.size w (w.alloc (.cells #[.int .i64 n0, .int .i64 n1, .int .i64 n2, .int .i64 n3, .int .i64 n4, .int .i64 n5, .int .i64 n6, .bool n7, .int .i64 ad, .int .i64 st, .int .i64 lf, .slice a N cap] 60)) := (Below.refl _ _).alloc (Nat.le_refl _) _
  have HB0 := Lib.hid b0
  have HR0 := Lib.hid (heap_alloc_new w (.cells #[.int .i64 n0, .int .i64 n1, .int .i64 n2, .int .i64 n3, .int .i64 n4, .int .i64 n5, .int .i64 n6, .bool n7, .int .i64 ad, .int .i64 st, .int .i64 lf, .slice a N cap] 60))
  clear b0
  go_enter Try.func75, Try.ntmps75
  go_wp2_with fail
  refine (HN _).out.mono ?_
  rintro e w1 ⟨rfl, h1⟩
  have HB1 := Lib.hid (HB0.out.trans (h1.mono (by simp)))
  have HR1 := Lib.hid ((h1.block _ (by simp)).trans HR0.out)
  clear h1 HR0 HB0
  cases v0
  · have HO := Lib.hid (show R = false from HR.out.symm.trans rfl)
    go_wp2_with fail
    go_ret
    exact ⟨by rw [HO.out]; rfl, HB1.out⟩
  have m0 := cell_of_row w1 w.heap.size 0 _ _ (0, 0) HR1.out
  have m1 := cell_of_row w1 w.heap.size 1 _ _ (0, 0) HR1.out
  have m2 := cell_of_row w1 w.heap.size 2 _ _ (0, 0) HR1.out
  have m3 := cell_of_row w1 w.heap.size 3 _ _ (0, 0) HR1.out
  have m4 := cell_of_row w1 w.heap.size 4 _ _ (0, 0) HR1.out
  have m5 := cell_of_row w1 w.heap.size 5 _ _ (0, 0) HR1.out
  have m6 := cell_of_row w1 w.heap.size 6 _ _ (0, 0) HR1.out
  have m7 := cell_of_row w1 w.heap.size 7 _ _ (0, 0) HR1.out
  have m8 := cell_of_row w1 w.heap.size 8 _ _ (0, 0) HR1.out
  have m9 := cell_of_row w1 w.heap.size 9 _ _ (0, 0) HR1.out
  have m10 := cell_of_row w1 w.heap.size 10 _ _ (0, 0) HR1.out
  have m11 := cell_of_row w1 w.heap.size 11 _ _ (0, 0) HR1.out
  simp only [List.getElem?_toArray, List.getElem?_cons_zero, List.getElem?_cons_succ] at m0 m1 m2 m3 m4 m5 m6 m7 m8 m9 m10 m11
  go_wp2_with fail
  refine (HS _).out.mono ?_
  rintro e w2 ⟨rfl, h2⟩
  have HB2 := Lib.hid (HB1.out.trans (h2.mono (HB1.out.size)))
  have HR2 := Lib.hid ((h2.block _ (heap_lt HR1.out)).trans HR1.out)
  clear h2 HR1 HB1 m0 m1 m2 m3 m4 m5 m6 m7 m8 m9 m10 m11
  cases v1
  · have HO := Lib.hid (show R = false from HR.out.symm.trans rfl)
    go_wp2_with fail
    go_ret
    exact ⟨by rw [HO.out]; rfl, HB2.out⟩
  have m11 := cell_of_row w2 w.heap.size 11 _ _ (0, 0) HR2.out
  simp only [List.getElem?_toArray, List.getElem?_cons_zero, List.getElem?_cons_succ] at m11
  have HO := Lib.hid (show R = v2 from HR.out.symm.trans (by simp))
  go_wp2_with fail
  refine (HT _ (HI.out.kept HB2.out)).out.mono ?_
  rintro e w3 ⟨rfl, rfl⟩
  go_wp2_with fail
  go_ret
  exact ⟨by rw [HO.out]; rfl, HB2.out⟩
end Go.Proofs.Ytpolpkheaibonaa
/- What tells all others of a Claim: the model's and the program's. Nothing that was there is written. -/
namespace Go.Proofs.Ytpolpkheaibonaa
open Go.RowKit
set_option linter.unusedVariables false

/-- What ClaimCan answers. -/
def clCanV (c : Cl) : Value := if clB c = true then .agg #[.int .i64 (idN 6 60928 255 c.ad), .string ⟨(nmL c.n).toArray⟩] else .agg #[.int .i64 0, .string ⟨#[]⟩]
theorem clB_id {c : Cl} (h : clB c = true) : okB c.n = true ∧ idB 6 60928 255 c.ad = true := by
  obtain ⟨h0, _, _, h3⟩ := clB_of h
  refine ⟨h0, idB_to (by omega) ?_ (by omega) (.inr ⟨by decide, by decide, by omega, by omega⟩)⟩
  rcases stateB_of h3 with ⟨_, h, _⟩ | ⟨_, h, _⟩ | ⟨_, h, _⟩ <;> omega

set_option maxRecDepth 100000 in
set_option maxHeartbeats 4000000 in
theorem l05Can_any (n : Nm) (ad st lf : Int) (a : Option Addr) (N cap : Nat) (w : World) (ho : okB n = true) (hi : idB 6 60928 255 ad = true) :
    Calls Try.prog 84 #[clV n ad st lf (.slice a N cap)] w fun e w' => e = .returned (.agg #[.int .i64 (idN 6 60928 255 ad), .string ⟨(nmL n).toArray⟩]) ∧ Below w.heap.size w w' := by
  have HN := fun W => Lib.hid (l02Num_any 6 60928 255 ad W hi)
  have HB := fun W => Lib.hid (l04Bytes_any n W ho)
  clear ho hi
  generalize idN 6 60928 255 ad = q at *
  generalize ByteArray.mk (nmL n).toArray = s at *
  obtain ⟨n0, n1, n2, n3, n4, n5, n6, n7⟩ := n
  unfold clV
  unfold nmV at HB
  unfold idV at HN
  dsimp only at *
  have HW := Lib.hid (((Below.refl w.heap.size w).alloc (Nat.le_refl _) (.cells #[.int .i64 n0, .int .i64 n1, .int .i64 n2, .int .i64 n3, .int .i64 n4, .int .i64 n5, .int .i64 n6, .bool n7, .int .i64 ad, .int .i64 st, .int .i64 lf, .slice a N cap] 60)).alloc (by simp) (.cells #[.int .i64 0, .string ⟨#[]⟩] 133))
  have HZ := Lib.hid (heap_next w (.cells #[.int .i64 n0, .int .i64 n1, .int .i64 n2, .int .i64 n3, .int .i64 n4, .int .i64 n5, .int .i64 n6, .bool n7, .int .i64 ad, .int .i64 st, .int .i64 lf, .slice a N cap] 60) (.cells #[.int .i64 0, .string ⟨#[]⟩] 133))
  have HX := Lib.hid ((Below.heap_alloc (w.alloc (.cells #[.int .i64 n0, .int .i64 n1, .int .i64 n2, .int .i64 n3, .int .i64 n4, .int .i64 n5, .int .i64 n6, .bool n7, .int .i64 ad, .int .i64 st, .int .i64 lf, .slice a N cap] 60)) (.cells #[.int .i64 0, .string ⟨#[]⟩] 133) w.heap.size (by simp)).trans (heap_alloc_new w (.cells #[.int .i64 n0, .int .i64 n1, .int .i64 n2, .int .i64 n3, .int .i64 n4, .int .i64 n5, .int .i64 n6, .bool n7, .int .i64 ad, .int .i64 st, .int .i64 lf, .slice a N cap] 60)))
  go_enter Try.func84, Try.ntmps84
  go_wp2_with fail
  generalize (w.alloc (.cells #[.int .i64 n0, .int .i64 n1, .int .i64 n2, .int .i64 n3, .int .i64 n4, .int .i64 n5, .int .i64 n6, .bool n7, .int .i64 ad, .int .i64 st, .int .i64 lf, .slice a N cap] 60)).alloc (.cells #[.int .i64 0, .string ⟨#[]⟩] 133) = U at *
  have lz : w.heap.size + 1 < U.heap.size := heap_lt HZ.out
  have keep : ∀ W, Below (w.heap.size + 1) U W → (fun W => (W.cell? ⟨w.heap.size, 0, none⟩ = some (.int .i64 n0) ∧ W.cell? ⟨w.heap.size, 1, none⟩ = some (.int .i64 n1) ∧ W.cell? ⟨w.heap.size, 2, none⟩ = some (.int .i64 n2) ∧ W.cell? ⟨w.heap.size, 3, none⟩ = some (.int .i64 n3) ∧ W.cell? ⟨w.heap.size, 4, none⟩ = some (.int .i64 n4) ∧ W.cell? ⟨w.heap.size, 5, none⟩ = some (.int .i64 n5) ∧ W.cell? ⟨w.heap.size, 6, none⟩ = some (.int .i64 n6) ∧ W.cell? ⟨w.heap.size, 7, none⟩ = some (.bool n7) ∧ W.cell? ⟨w.heap.size, 8, none⟩ = some (.int .i64 ad)) ∧ Below (w.heap.size + 1) U W) W := fun W hW => by
    have hX := (hW.block w.heap.size (by omega)).trans HX.out
    refine ⟨⟨?_, ?_, ?_, ?_, ?_, ?_, ?_, ?_, ?_⟩, hW⟩ <;> (rw [cell_of_row W w.heap.size _ _ _ (0, 0) hX]; rfl)
  have HK := Lib.hid keep
  clear keep
  go_region_held3 (fun W => (W.cell? ⟨w.heap.size, 0, none⟩ = some (.int .i64 n0) ∧ W.cell? ⟨w.heap.size, 1, none⟩ = some (.int .i64 n1) ∧ W.cell? ⟨w.heap.size, 2, none⟩ = some (.int .i64 n2) ∧ W.cell? ⟨w.heap.size, 3, none⟩ = some (.int .i64 n3) ∧ W.cell? ⟨w.heap.size, 4, none⟩ = some (.int .i64 n4) ∧ W.cell? ⟨w.heap.size, 5, none⟩ = some (.int .i64 n5) ∧ W.cell? ⟨w.heap.size, 6, none⟩ = some (.int .i64 n6) ∧ W.cell? ⟨w.heap.size, 7, none⟩ = some (.bool n7) ∧ W.cell? ⟨w.heap.size, 8, none⟩ = some (.int .i64 ad)) ∧ Below (w.heap.size + 1) U W)
    (first | with_reducible exact HK.out _ (Below.refl _ _).drew | with_reducible exact HK.out _ b1 | with_reducible exact HK.out _ b2 | with_reducible exact HK.out _ ((b2.setCell (p := ⟨w.heap.size + 1, 0, none⟩) (Nat.le_refl _) _).setCell (p := ⟨w.heap.size + 1, 1, none⟩) (Nat.le_refl _) _))
    (first
      | (go_at_call 129; refine (HN _).out.mono ?_; rintro e w1 ⟨rfl, h1⟩; have b1 : Below (w.heap.size + 1) U w1 := (Below.refl _ _).drew.trans (h1.mono (Nat.le_of_lt lz)))
      | (go_at_call 130; refine (HB _).out.mono ?_; rintro e w2 ⟨rfl, h2⟩; have b2 : Below (w.heap.size + 1) U w2 := b1.trans (h2.mono (Nat.le_trans (Nat.le_of_lt lz) b1.size)); have hZ := ((h2.block (w.heap.size + 1) (Nat.lt_of_lt_of_le lz h1.size)).trans (h1.block (w.heap.size + 1) lz)).trans HZ.out; have r0 := cell_of_row w2 (w.heap.size + 1) 0 _ _ (0, 0) hZ; have r1 := cell_of_row w2 (w.heap.size + 1) 1 _ _ (0, 0) hZ; have e0 := frozen_of_row w2 (w.heap.size + 1) 0 _ _ hZ; have e1 := frozen_of_row w2 (w.heap.size + 1) 1 _ _ hZ; simp only [List.getElem?_toArray, List.getElem?_cons_zero, List.getElem?_cons_succ] at r0 r1; clear hZ))
  go_wp2
  exact bodyPost_ret (v := .agg #[.int .i64 q, .string s]) (by simp [results, Try.results84, go_sem, r0, r1]) rfl ⟨rfl, ((HW.out.trans (b2.mono (by omega))).setCell (p := ⟨w.heap.size + 1, 0, none⟩) (by simp) _).setCell (p := ⟨w.heap.size + 1, 1, none⟩) (by simp) _⟩
set_option maxRecDepth 100000 in
set_option maxHeartbeats 4000000 in
theorem implClaimCan_any (n : Nm) (ad st lf : Int) (a : Option Addr) (cap : Nat) (l : List Int) (w : World) (h : NumsIn w a l) (hlen : l.length ≤ 1048576) :
    Calls Try.prog 133 #[clV n ad st lf (.slice a l.length cap)] w fun e w' => e = .returned (clCanV ⟨n, ad, st, lf, l⟩) ∧ Below w.heap.size w w' := by
  have HC := fun W hW => Lib.hid (implClaimRight_any n ad st lf a cap l W hW hlen)
  have HI := Lib.hid h
  clear h
  rcases hcl : clB ⟨n, ad, st, lf, l⟩
  · have HV := Lib.hid (show clCanV ⟨n, ad, st, lf, l⟩ = .agg #[.int .i64 0, .string ⟨#[]⟩] by unfold clCanV; rw [hcl]; rfl)
    rw [hcl] at HC
    clear hcl hlen
    generalize clCanV ⟨n, ad, st, lf, l⟩ = V at *
    generalize l.length = N at *
    obtain ⟨n0, n1, n2, n3, n4, n5, n6, n7⟩ := n
    unfold clV at *
    dsimp only at *
    have HW := Lib.hid (((Below.refl w.heap.size w).alloc (Nat.le_refl _) (.cells #[.int .i64 n0, .int .i64 n1, .int .i64 n2, .int .i64 n3, .int .i64 n4, .int .i64 n5, .int .i64 n6, .bool n7, .int .i64 ad, .int .i64 st, .int .i64 lf, .slice a N cap] 60)).alloc (by simp) (.cells #[.int .i64 0, .string ⟨#[]⟩] 133))
    have HZ := Lib.hid (heap_next w (.cells #[.int .i64 n0, .int .i64 n1, .int .i64 n2, .int .i64 n3, .int .i64 n4, .int .i64 n5, .int .i64 n6, .bool n7, .int .i64 ad, .int .i64 st, .int .i64 lf, .slice a N cap] 60) (.cells #[.int .i64 0, .string ⟨#[]⟩] 133))
    go_enter Try.func133, Try.ntmps133
    go_wp2_with fail
    refine (HC _ (HI.out.kept HW.out)).out.mono ?_
    rintro e w1 ⟨rfl, h1⟩
    have HZ1 := Lib.hid ((h1.block (w.heap.size + 1) (by simp)).trans HZ.out)
    have HW1 := Lib.hid (HW.out.trans (h1.mono (by simp; omega)))
    have s1 : w.heap.size + 1 < w1.heap.size := heap_lt HZ1.out
    clear h1 HZ HW
    go_wp2_with (refine wpList_put_row rfl 133 (.tmp 2) (.tmp 7) rfl rfl (w.heap.size + 1) #[.int .i64 0, .string ⟨#[]⟩] rfl rfl 133 _ HZ1.out (by kernel_rfl) rfl rfl ?_; intro w9 hR hO; have HR := Lib.hid hR; have HO := Lib.hid hO; clear hR hO)
    exact bodyPost_ret (results_cell_row (p := 2) (ty := 133) (by kernel_rfl) _ _ (w.heap.size + 1) 133 _ (0, 0) _ rfl HR.out Try.underlying133 rfl (by kernel_rfl)) rfl ⟨by rw [HV.out], HO.out.below HW1.out (by omega) (by omega)⟩
  obtain ⟨ho, hid⟩ := clB_id hcl
  have HV := Lib.hid (show clCanV ⟨n, ad, st, lf, l⟩ = .agg #[.int .i64 (idN 6 60928 255 ad), .string ⟨(nmL n).toArray⟩] by unfold clCanV; rw [hcl]; rfl)
  have HN := fun W => Lib.hid (implIdNum_any 6 60928 255 ad W)
  have HB := fun W => Lib.hid (implNameBytes_any n W)
  rw [show nmBytes n = nmL n by unfold nmBytes; rw [ho]; rfl] at HB
  rw [hcl] at HC
  clear hcl hlen ho hid
  generalize idN 6 60928 255 ad = q at *
  generalize ByteArray.mk (nmL n).toArray = s at *
  generalize clCanV ⟨n, ad, st, lf, l⟩ = V at *
  generalize l.length = N at *
  obtain ⟨n0, n1, n2, n3, n4, n5, n6, n7⟩ := n
  unfold clV at *
  unfold nmV at HB
  unfold idV at HN
  dsimp only at *
  have HW := Lib.hid (((Below.refl w.heap.size w).alloc (Nat.le_refl _) (.cells #[.int .i64 n0, .int .i64 n1, .int .i64 n2, .int .i64 n3, .int .i64 n4, .int .i64 n5, .int .i64 n6, .bool n7, .int .i64 ad, .int .i64 st, .int .i64 lf, .slice a N cap] 60)).alloc (by simp) (.cells #[.int .i64 0, .string ⟨#[]⟩] 133))
  have HZ := Lib.hid (heap_next w (.cells #[.int .i64 n0, .int .i64 n1, .int .i64 n2, .int .i64 n3, .int .i64 n4, .int .i64 n5, .int .i64 n6, .bool n7, .int .i64 ad, .int .i64 st, .int .i64 lf, .slice a N cap] 60) (.cells #[.int .i64 0, .string ⟨#[]⟩] 133))
  have HX := Lib.hid ((Below.heap_alloc (w.alloc (.cells #[.int .i64 n0, .int .i64 n1, .int .i64 n2, .int .i64 n3, .int .i64 n4, .int .i64 n5, .int .i64 n6, .bool n7, .int .i64 ad, .int .i64 st, .int .i64 lf, .slice a N cap] 60)) (.cells #[.int .i64 0, .string ⟨#[]⟩] 133) w.heap.size (by simp)).trans (heap_alloc_new w (.cells #[.int .i64 n0, .int .i64 n1, .int .i64 n2, .int .i64 n3, .int .i64 n4, .int .i64 n5, .int .i64 n6, .bool n7, .int .i64 ad, .int .i64 st, .int .i64 lf, .slice a N cap] 60)))
  go_enter Try.func133, Try.ntmps133
  go_wp2_with fail
  refine (HC _ (HI.out.kept HW.out)).out.mono ?_
  rintro e w1 ⟨rfl, h1⟩
  have HZ1 := Lib.hid ((h1.block (w.heap.size + 1) (by simp)).trans HZ.out)
  have HX1 := Lib.hid ((h1.block w.heap.size (by simp; omega)).trans HX.out)
  have HW1 := Lib.hid (HW.out.trans (h1.mono (by simp; omega)))
  have s1 : w.heap.size + 1 < w1.heap.size := heap_lt HZ1.out
  clear h1 HZ HW HX HC
  have c8 := cell_of_row w1 w.heap.size 8 _ _ (0, 0) HX1.out
  simp only [List.getElem?_toArray, List.getElem?_cons_zero, List.getElem?_cons_succ] at c8
  have HZ2 := Lib.hid ((Below.heap_alloc w1 (.cells #[.int .i64 6, .int .i64 60928, .int .i64 255, .int .i64 ad] 182) (w.heap.size + 1) s1).trans HZ1.out)
  have HX2 := Lib.hid ((Below.heap_alloc w1 (.cells #[.int .i64 6, .int .i64 60928, .int .i64 255, .int .i64 ad] 182) w.heap.size (by omega)).trans HX1.out)
  have HY2 := Lib.hid (heap_alloc_new w1 (.cells #[.int .i64 6, .int .i64 60928, .int .i64 255, .int .i64 ad] 182))
  have HW2 := Lib.hid (HW1.out.alloc HW1.out.size (.cells #[.int .i64 6, .int .i64 60928, .int .i64 255, .int .i64 ad] 182))
  clear HZ1 HX1 HW1
  go_wp2_with fail
  clear c8
  generalize w1.alloc (.cells #[.int .i64 6, .int .i64 60928, .int .i64 255, .int .i64 ad] 182) = U at *
  have lz : w.heap.size + 1 < U.heap.size := heap_lt HZ2.out
  have ly : w1.heap.size < U.heap.size := heap_lt HY2.out
  have keep : ∀ W, Out (w.heap.size + 1) (w.heap.size + 2) U W → (fun W => (W.cell? ⟨w.heap.size, 0, none⟩ = some (.int .i64 n0) ∧ W.cell? ⟨w.heap.size, 1, none⟩ = some (.int .i64 n1) ∧ W.cell? ⟨w.heap.size, 2, none⟩ = some (.int .i64 n2) ∧ W.cell? ⟨w.heap.size, 3, none⟩ = some (.int .i64 n3) ∧ W.cell? ⟨w.heap.size, 4, none⟩ = some (.int .i64 n4) ∧ W.cell? ⟨w.heap.size, 5, none⟩ = some (.int .i64 n5) ∧ W.cell? ⟨w.heap.size, 6, none⟩ = some (.int .i64 n6) ∧ W.cell? ⟨w.heap.size, 7, none⟩ = some (.bool n7) ∧ W.cell? ⟨w1.heap.size, 0, none⟩ = some (.int .i64 6) ∧ W.cell? ⟨w1.heap.size, 1, none⟩ = some (.int .i64 60928) ∧ W.cell? ⟨w1.heap.size, 2, none⟩ = some (.int .i64 255) ∧ W.cell? ⟨w1.heap.size, 3, none⟩ = some (.int .i64 ad)) ∧ Out (w.heap.size + 1) (w.heap.size + 2) U W) W := fun W hW => by
    have hX := (hW.block w.heap.size (by omega) (by omega)).trans HX2.out
    have hY := (hW.block w1.heap.size ly (by omega)).trans HY2.out
    refine ⟨⟨?_, ?_, ?_, ?_, ?_, ?_, ?_, ?_, ?_, ?_, ?_, ?_⟩, hW⟩ <;> first | (rw [cell_of_row W w.heap.size _ _ _ (0, 0) hX]; rfl) | (rw [cell_of_row W w1.heap.size _ _ _ (0, 0) hY]; rfl)
  have HK := Lib.hid keep
  have H0 := Lib.hid (Out.of_below (lo := w.heap.size + 1) (hi := w.heap.size + 2) ((Below.refl U.heap.size U).drew))
  clear keep
  go_region_held3 (fun W => (W.cell? ⟨w.heap.size, 0, none⟩ = some (.int .i64 n0) ∧ W.cell? ⟨w.heap.size, 1, none⟩ = some (.int .i64 n1) ∧ W.cell? ⟨w.heap.size, 2, none⟩ = some (.int .i64 n2) ∧ W.cell? ⟨w.heap.size, 3, none⟩ = some (.int .i64 n3) ∧ W.cell? ⟨w.heap.size, 4, none⟩ = some (.int .i64 n4) ∧ W.cell? ⟨w.heap.size, 5, none⟩ = some (.int .i64 n5) ∧ W.cell? ⟨w.heap.size, 6, none⟩ = some (.int .i64 n6) ∧ W.cell? ⟨w.heap.size, 7, none⟩ = some (.bool n7) ∧ W.cell? ⟨w1.heap.size, 0, none⟩ = some (.int .i64 6) ∧ W.cell? ⟨w1.heap.size, 1, none⟩ = some (.int .i64 60928) ∧ W.cell? ⟨w1.heap.size, 2, none⟩ = some (.int .i64 255) ∧ W.cell? ⟨w1.heap.size, 3, none⟩ = some (.int .i64 ad)) ∧ Out (w.heap.size + 1) (w.heap.size + 2) U W)
    (first | with_reducible exact HK.out _ H0.out | with_reducible exact HK.out _ b1 | with_reducible exact HK.out _ b2 | with_reducible exact HK.out _ ((b2.setCell (p := ⟨w.heap.size + 1, 0, none⟩) (Nat.le_refl _) (Nat.lt_succ_self _) _).setCell (p := ⟨w.heap.size + 1, 1, none⟩) (Nat.le_refl _) (Nat.lt_succ_self _) _))
    (first
      | (go_at_call 161; refine (HN _).out.mono ?_; rintro e w2 ⟨rfl, h1⟩; have b1 : Out (w.heap.size + 1) (w.heap.size + 2) U w2 := H0.out.trans (Out.of_below h1))
      | (go_at_call 146; refine (HB _).out.mono ?_; rintro e w3 ⟨rfl, h2⟩; have b2 : Out (w.heap.size + 1) (w.heap.size + 2) U w3 := b1.trans (Out.of_below h2); have hZ := ((h2.block (w.heap.size + 1) (Nat.lt_of_lt_of_le lz h1.size)).trans (h1.block (w.heap.size + 1) lz)).trans HZ2.out; have r0 := cell_of_row w3 (w.heap.size + 1) 0 _ _ (0, 0) hZ; have r1 := cell_of_row w3 (w.heap.size + 1) 1 _ _ (0, 0) hZ; have e0 := frozen_of_row w3 (w.heap.size + 1) 0 _ _ hZ; have e1 := frozen_of_row w3 (w.heap.size + 1) 1 _ _ hZ; simp only [List.getElem?_toArray, List.getElem?_cons_zero, List.getElem?_cons_succ] at r0 r1; clear hZ))
  have b4 := (b2.below HW2.out (by omega) (by omega))
  go_wp2
  exact bodyPost_ret (v := .agg #[.int .i64 q, .string s]) (by simp [results, Try.results133, go_sem, r0, r1]) rfl ⟨by rw [HV.out], (b4.setCell (p := ⟨w.heap.size + 1, 0, none⟩) (by simp) _).setCell (p := ⟨w.heap.size + 1, 1, none⟩) (by simp) _⟩
end Go.Proofs.Ytpolpkheaibonaa
/- A region in any order, one of whose operations makes memory that a later one writes: what is said of an operation may speak of that one's value. -/
namespace Go.Proofs.Ytpolpkheaibonaa
open Go.RowKit
set_option linter.unusedVariables false

section
variable {P : Program} {ops : Array Oper} {Q : Exit → Act → World → Prop}
/-- What an operation may take as known; x: the value of the one that makes memory. -/
structure KnownZ (ops : Array Oper) (T : Nat → World → Value → Value → Prop) (x : Value) (a0 : Act) (o : Oper) (a : Act) (w : World) : Prop where
  old : ∀ s, freeOf (some s) ops.toList = true → a.eval (.tmp s) = a0.eval (.tmp s)
  dep : ∀ e ∈ o.after, Region.binds .any e = true → ∀ oj s, ops[e.on]? = some oj → oj.dst = some s → s < a0.tmps.size → T e.on w x (a.eval (.tmp s))
def ObZ (P : Program) (ops : Array Oper) (Q : Exit → Act → World → Prop) (z : Nat) (C : World → Prop) (R : World → World → Prop) (T : Nat → World → Value → Value → Prop) (a0 : Act) (i : Nat) (o : Oper) : Prop :=
  o.guard = none ∧ ∀ a w x, C w → KnownZ ops T x a0 o a w → o.wp P a w (fun a' w' => ∃ v, a' = a.put o.dst v ∧ C w' ∧ R w w' ∧ T i w' (if i = z then v else x) v) Q
def ObAllZ (P : Program) (ops : Array Oper) (Q : Exit → Act → World → Prop) (z : Nat) (C : World → Prop) (R : World → World → Prop) (T : Nat → World → Value → Value → Prop) (a0 : Act) : List Oper → Nat → Prop
  | [], _ => True
  | o :: r, k => ObZ P ops Q z C R T a0 k o ∧ ObAllZ P ops Q z C R T a0 r (k + 1)
theorem ObAllZ.get {z : Nat} {C : World → Prop} {R : World → World → Prop} {T : Nat → World → Value → Value → Prop} {a0 : Act} : ∀ (l : List Oper) (k i : Nat) (o : Oper), ObAllZ P ops Q z C R T a0 l k → l[i]? = some o → ObZ P ops Q z C R T a0 (k + i) o := by
  intro l
  induction l with
  | nil => intro k i o _ h; simp at h
  | cons o' r ih =>
    intro k i o hall h
    rcases i with _ | i
    · simp at h; subst h; exact hall.1
    · rw [show k + (i + 1) = k + 1 + i by omega]
      exact ih (k + 1) i o hall.2 (by simpa using h)
theorem KnownZ.get {T : Nat → World → Value → Value → Prop} {x : Value} {a0 : Act} {o : Oper} {a : Act} {w : World} (hK : KnownZ ops T x a0 o a w) (k s : Nat) {oj : Oper} (he : o.after.any (fun e => (e.on == k) && Region.binds .any e) = true) (hoj : ops[k]? = some oj) (hd : oj.dst = some s)
    (hs : Nat.ble (s + 1) a0.tmps.size = true) : T k w x (a.eval (.tmp s)) := by
  obtain ⟨e, he1, he2⟩ := Array.any_eq_true'.1 he
  simp only [Bool.and_eq_true] at he2
  have hk : e.on = k := by simpa using he2.1
  subst hk
  exact hK.dep e he1 he2.2 oj s hoj hd (Nat.le_of_ble_eq_true hs)
theorem wp_region_anyordZ {id : Nat} {a0 : Act} {w : World} (z : Nat) (C : World → Prop) (R : World → World → Prop) (T : Nat → World → Value → Value → Prop) (hm : P.follows .mixedOrders = true)
    (hap : apartAll ops.toList = true) (hbk : backB ops.toList 0 = true)
    (hst : ∀ j w w' x v, R w w' → T j w x v → T j w' x v) (hind : ∀ j o, ops[j]? = some o → j ≠ z → (o.after.any fun e => Region.binds .any e && (e.on == z)) = false → ∀ w x x' v, T j w x v → T j w x' v) (hC : C { w with drawn := w.drawn + 1 })
    (hob : ObAllZ P ops Q z C R T a0 ops.toList 0)
    (hQ : ∀ vs w', C w' → (∀ i, i < ops.size → T i w' (vs z) (vs i)) → Q .normal (fillL vs (fun _ => true) ops.toList 0 a0) w') : (Code.region id ops true).wp P Q a0 w := by
  refine wp_region_any hm (wpAny_of_inv (Inv := fun listed a w => listed.size = ops.size ∧ C w ∧ ∃ vs, a = fillL vs (fun j => listed.getD j false) ops.toList 0 a0 ∧ (∀ i, listed.getD i false = true → T i w (vs z) (vs i)) ∧ ∀ j o, listed.getD j false = true → ops[j]? = some o → ∀ e ∈ o.after, Region.binds .any e = true → listed.getD e.on false = true) ?_ ?_ _ _ _ _ ⟨by simp, hC, fun _ => undef, ?_, ?_, ?_⟩ ?_)
  · intro listed a w i ⟨hsz, hCw, vs, ha, hT, hcl⟩ hi
    obtain ⟨hun, o, ho, hdeps⟩ := mem_ready.1 hi
    have hil : i < ops.size := (Array.getElem?_eq_some_iff.1 ho).1
    have hol : ops.toList[i]? = some o := by rw [Array.getElem?_toList]; exact ho
    have hunf : listed.getD i false = false := by
      have h1 : i < listed.size := by omega
      simp [h1] at hun ⊢
      exact hun
    have hObi := hob.get ops.toList 0 i o hol
    rw [Nat.zero_add] at hObi
    obtain ⟨hg, hwp⟩ := hObi
    have hK : KnownZ ops T (vs z) a0 o a w := by
      refine ⟨fun s hs => by rw [ha]; exact fillL_other vs _ s _ 0 a0 hs, fun e he hbe oj s hoj hd hs => ?_⟩
      have hl := hdeps e he hbe
      have := fillL_at vs (fun j => listed.getD j false) s ops.toList 0 e.on oj a0 hap (by rw [Array.getElem?_toList]; exact hoj) hd (by rw [Nat.zero_add]; exact hl) hs
      rw [Nat.zero_add] at this
      rw [ha, this]
      exact hT e.on hl
    unfold wpOp
    rw [ho]
    have hw : Region.wanted o (yielded ops a.tmps) = true := by simp [Region.wanted, hg]
    simp only [hw, if_true]
    refine .inl (Oper.wp_mono (fun a' w' ⟨v, ha', hC', hR, hTv⟩ => ?_) (hwp a w (vs z) hCw hK))
    refine ⟨by simpa using hsz, hC', upd vs i v, ?_, fun j hj => ?_, fun j oj hj hoj e he hbe => ?_⟩
    · have hs := fillL_step vs (fun j => listed.getD j false) v ops.toList 0 i o a0 hap hol (by rw [Nat.zero_add]; exact hunf)
      rw [Nat.zero_add] at hs
      rw [ha', ha, ← hs]
      refine fillL_congr _ 0 _ fun j _ => ⟨?_, fun _ => rfl⟩
      unfold upd
      by_cases hj : j = i
      · subst hj
        have h1 : j < listed.size := by omega
        simp [h1]
      · rw [if_neg hj]
        simp [Array.getD_eq_getD_getElem?, Ne.symm hj]
    · by_cases hji : j = i
      · subst hji
        have e1 : upd vs j v z = if j = z then v else vs z := by
          unfold upd
          by_cases hz : z = j
          · rw [if_pos hz, if_pos hz.symm]
          · rw [if_neg hz, if_neg (Ne.symm hz)]
        rw [e1]
        simpa [upd] using hTv
      · have h2 : listed.getD j false = true := by
          simpa [Array.getD_eq_getD_getElem?, Array.getElem?_setIfInBounds, Ne.symm hji] using hj
        have h3 := hst j w w' _ _ hR (hT j h2)
        have e2 : upd vs i v j = vs j := by unfold upd; rw [if_neg hji]
        rw [e2]
        by_cases hz : z = i
        · subst hz
          have hjs : j < ops.size := by
            rcases Nat.lt_or_ge j ops.size with h | h
            · exact h
            · rw [Array.getD_eq_getD_getElem?, Array.getElem?_eq_none (by omega)] at h2
              cases h2
          refine hind j ops[j] (Array.getElem?_eq_getElem hjs) hji ?_ w' _ _ _ h3
          rw [Bool.eq_false_iff]
          intro hany
          obtain ⟨e, he1, he2⟩ := Array.any_eq_true'.1 hany
          simp only [Bool.and_eq_true, beq_iff_eq] at he2
          have := hcl j ops[j] h2 (Array.getElem?_eq_getElem hjs) e he1 he2.1
          rw [he2.2, hunf] at this
          cases this
        · have e3 : upd vs i v z = vs z := by unfold upd; rw [if_neg hz]
          rw [e3]
          exact h3
    · have hset : ∀ k, listed.getD k false = true → (listed.setIfInBounds i true).getD k false = true := by
        intro k hk
        by_cases hki : k = i
        · subst hki
          have h1 : k < listed.size := by omega
          simp [Array.getD_eq_getD_getElem?, h1]
        · simpa [Array.getD_eq_getD_getElem?, Array.getElem?_setIfInBounds, Ne.symm hki] using hk
      by_cases hji : j = i
      · subst hji
        rw [ho] at hoj
        obtain rfl := Option.some.inj hoj
        exact hset _ (hdeps e he hbe)
      · have h2 : listed.getD j false = true := by
          simpa [Array.getD_eq_getD_getElem?, Array.getElem?_setIfInBounds, Ne.symm hji] using hj
        exact hset _ (hcl j oj h2 hoj e he hbe)
  · intro listed a w ⟨hsz, hCw, vs, ha, hT, _⟩ h0
    have hall : ∀ n j, j < n → j < ops.size → listed.getD j false = true := by
      intro n
      induction n with
      | zero => intro j h; omega
      | succ n ih =>
        intro j hj hjs
        rcases Nat.lt_or_ge j n with h1 | h1
        · exact ih j h1 hjs
        obtain rfl : j = n := by omega
        cases hl : listed.getD j false with
        | true => rfl
        | false =>
          exfalso
          have hmem : j ∈ Region.ready .any ops listed := by
            refine mem_ready.2 ⟨?_, ops[j], Array.getElem?_eq_getElem hjs, fun e he hbe => ?_⟩
            · have h1 : j < listed.size := by omega
              simp [h1] at hl ⊢
              exact hl
            · have := backB_get ops.toList 0 j ops[j] hbk (by rw [Array.getElem?_toList]; exact Array.getElem?_eq_getElem hjs) e he hbe
              exact ih e.on (by omega) (by omega)
          rw [h0] at hmem
          cases hmem
    rw [ha, fillL_all vs _ ops.toList 0 a0 (fun j _ h => hall ops.size j (by simpa using h) (by simpa using h))]
    exact hQ vs w hCw fun i hi => hT i (hall ops.size i hi hi)
  · symm
    have : ∀ (l : List Oper) k, fillL (fun _ => undef) (fun j => (Array.replicate ops.size false).getD j false) l k a0 = a0 := by
      intro l
      induction l with
      | nil => intro k; rfl
      | cons o r ih =>
        intro k
        show fillL _ _ r (k + 1) (if (Array.replicate ops.size false).getD k false = true then _ else a0) = a0
        rw [if_neg (by simp [Array.getD_eq_getD_getElem?, Array.getElem?_replicate]; split <;> simp)]
        exact ih (k + 1)
    exact this _ _
  · intro i hi
    exfalso
    simp [Array.getD_eq_getD_getElem?, Array.getElem?_replicate] at hi
    split at hi <;> simp at hi
  · intro i o hi
    exfalso
    simp [Array.getD_eq_getD_getElem?, Array.getElem?_replicate] at hi
    split at hi <;> simp at hi
  · have : (Array.replicate ops.size false).toList.count false = ops.size := by simp
    omega
end
end Go.Proofs.Ytpolpkheaibonaa
/- A worker's Claim told to all others: claimed. Nothing that was there is written. -/
namespace Go.Proofs.Ytpolpkheaibonaa
open Go.RowKit
set_option linter.unusedVariables false

/-- The Can that says a Claim. -/
def clCan (c : Cl) : Int × ByteArray := if clB c = true then (idN 6 60928 255 c.ad, ⟨(nmL c.n).toArray⟩) else (0, ⟨#[]⟩)
theorem clCan_val (c : Cl) : clCanV c = .agg #[.int .i64 (clCan c).1, .string (clCan c).2] := by
  unfold clCanV clCan
  split <;> rfl
theorem idN_in (a b d s : Int) : -1 ≤ idN a b d s ∧ idN a b d s ≤ 536870911 := by
  unfold idN
  split
  · rename_i h
    obtain ⟨h1, h2, h3, h4⟩ := idB_of h
    rcases h4 with ⟨h4, rfl⟩ | ⟨h4, h5, h6⟩ <;> simp [h4] <;> omega
  · omega
theorem clCan_ok (c : Cl) : CansOk [clCan c] := by
  intro y hy
  rw [List.mem_singleton] at hy
  subst hy
  unfold clCan
  split
  · obtain ⟨h1, h2⟩ := idN_in 6 60928 255 c.ad
    refine ⟨⟨by dsimp only; omega, by dsimp only; omega⟩, ?_⟩
    show (nmL c.n).toArray.size ≤ maxLen
    rw [List.size_toArray, nmL_len]
    decide
  · exact ⟨⟨by decide, by decide⟩, by decide⟩
/-- A worker's Queue when its Claim is told, if there is room. -/
def clmQ (x : Nd) : List (Int × ByteArray) := if putCode x.q [clCan x.c] = 0 then x.q ++ [clCan x.c] else x.q
def clmN (x : Nd) : Nd := { x with q := clmQ x }
def zqO : Obj := .cells #[.slice none 0 0, .int .i64 0, .string ByteArray.empty, .int .i64 0] 186 (0, 0)
/-- A put's answer stands there. -/
def AnsQ (cd : Int) (L : List (Int × ByteArray)) (lo k : Nat) (W : World) : Prop := ∃ y d, W.heap[k]? = some (.cells #[.slice y L.length d, .int .i64 0, .string ⟨#[]⟩, .int .i64 cd] 186 (0, 0)) ∧ RsNew canL 2 133 lo W.heap.size W y L
def RQ (cd : Int) (L : List (Int × ByteArray)) (lo : Nat) (W W' : World) : Prop := W.heap.size ≤ W'.heap.size ∧ ∀ k, k < W.heap.size → W'.heap[k]? = W.heap[k]? ∨ ((W.heap[k]? = some zqO ∨ AnsQ cd L lo k W) ∧ AnsQ cd L lo k W')
section
variable {cd : Int} {L : List (Int × ByteArray)} {lo : Nat} {W W' : World}
theorem RQ.refl : RQ cd L lo W W := ⟨Nat.le_refl _, fun _ _ => .inl rfl⟩
theorem RQ.below (h : Below W.heap.size W W') : RQ cd L lo W W' := ⟨h.size, fun k hk => .inl (h.block k hk)⟩
theorem RQ.block (h : RQ cd L lo W W') {b : Nat} {row : Array Value} {e : TypeId} (hne : e ≠ 186) (hg : W.heap[b]? = some (.cells row e (0, 0))) : W'.heap[b]? = some (.cells row e (0, 0)) := by
  rcases h.2 b (Array.getElem?_eq_some_iff.1 hg).1 with q | ⟨q | ⟨y, d, q, -⟩, -⟩
  · exact q.trans hg
  · rw [hg] at q
    unfold zqO at q
    injection q with q
    injection q with _ ht _
    exact absurd ht hne
  · rw [hg] at q
    injection q with q
    injection q with _ ht _
    exact absurd ht hne
theorem RQ.rs {y : Option Addr} (h : RQ cd L lo W W') (k : RsNew canL 2 133 lo W.heap.size W y L) : RsNew canL 2 133 lo W'.heap.size W' y L := by
  rcases k with k | ⟨b, o, row, rfl, p1, p2, hg, q⟩
  · exact .inl k
  · exact .inr ⟨b, o, row, rfl, p1, Nat.lt_of_lt_of_le p2 h.1, h.block (by decide) hg, q⟩
theorem RQ.ans {k : Nat} (h : RQ cd L lo W W') (q : AnsQ cd L lo k W) : AnsQ cd L lo k W' := by
  obtain ⟨y, d, hg, hr⟩ := q
  rcases h.2 k (Array.getElem?_eq_some_iff.1 hg).1 with p | ⟨-, p⟩
  · exact ⟨y, d, p.trans hg, h.rs hr⟩
  · exact p
theorem RQ.pend {k : Nat} (h : RQ cd L lo W W') (q : W.heap[k]? = some zqO ∨ AnsQ cd L lo k W) : W'.heap[k]? = some zqO ∨ AnsQ cd L lo k W' := by
  rcases q with q | q
  · rcases h.2 k (Array.getElem?_eq_some_iff.1 q).1 with p | ⟨-, p⟩
    · exact .inl (p.trans q)
    · exact .inr p
  · exact .inr (h.ans q)
end
def TQ (R1 lo : Nat) (x : Nd) (a1 a2 : Option Addr) (c1 c2 : Nat) (m : Int) (s : ByteArray) (cd : Int) (L : List (Int × ByteArray)) : Nat → World → Value → Value → Prop
  | 0, _, _, v => v = .pointer (some ⟨R1, 12, none⟩)
  | 1, _, _, v => v = .agg #[.slice a2 x.q.length c2]
  | 2, _, _, v => v = .pointer (some ⟨R1, 0, none⟩)
  | 3, _, _, v => v = .agg #[.int .i64 x.c.n.u, .int .i64 x.c.n.m, .int .i64 x.c.n.i, .int .i64 x.c.n.f, .int .i64 x.c.n.c, .int .i64 x.c.n.s, .int .i64 x.c.n.y, .bool x.c.n.a, .int .i64 x.c.ad, .int .i64 x.c.st, .int .i64 x.c.lf, .slice a1 x.c.tk.length c1]
  | 4, _, _, v => v = .agg #[.int .i64 m, .string s]
  | 5, W, _, v => ∃ G, v = .slice (some ⟨G, 0, none⟩) 1 1 ∧ W.heap[G]? = some (.cells #[.int .i64 m, .string s] 133 (0, 0))
  | 6, W, _, v => ∃ y d, v = .agg #[.slice y L.length d, .int .i64 0, .string ⟨#[]⟩, .int .i64 cd] ∧ RsNew canL 2 133 lo W.heap.size W y L
  | 7, W, z, v => v = z ∧ ∃ k, z = .pointer (some ⟨k, 0, none⟩) ∧ lo ≤ k ∧ (W.heap[k]? = some zqO ∨ AnsQ cd L lo k W)
  | 8, W, z, _ => ∃ k, z = .pointer (some ⟨k, 0, none⟩) ∧ lo ≤ k ∧ AnsQ cd L lo k W
  | _ + 9, _, _, _ => True
theorem TQ.kept {R1 lo : Nat} {x : Nd} {a1 a2 : Option Addr} {c1 c2 : Nat} {m : Int} {s : ByteArray} {cd : Int} {L : List (Int × ByteArray)} : ∀ j w w' z v, RQ cd L lo w w' → TQ R1 lo x a1 a2 c1 c2 m s cd L j w z v → TQ R1 lo x a1 a2 c1 c2 m s cd L j w' z v
  | 0, _, _, _, _, _, h | 1, _, _, _, _, _, h | 2, _, _, _, _, _, h | 3, _, _, _, _, _, h | 4, _, _, _, _, _, h => h
  | 5, _, _, _, _, hR, ⟨G, h1, h2⟩ => ⟨G, h1, hR.block (by decide) h2⟩
  | 6, _, _, _, _, hR, ⟨y, d, h1, h2⟩ => ⟨y, d, h1, hR.rs h2⟩
  | 7, _, _, _, _, hR, ⟨h1, k, h2, h3, h4⟩ => ⟨h1, k, h2, h3, hR.pend h4⟩
  | 8, _, _, _, _, hR, ⟨k, h2, h3, h4⟩ => ⟨k, h2, h3, hR.ans h4⟩
  | _ + 9, _, _, _, _, _, h => h
theorem subQ0 {x : Nd} {a1 a2 a3 a4 a5 : Option Addr} {c1 c2 c3 c4 c5 : Nat} : ∀ (j : Nat) (v : Value), ([.int .i64 x.c.n.u, .int .i64 x.c.n.m, .int .i64 x.c.n.i, .int .i64 x.c.n.f, .int .i64 x.c.n.c, .int .i64 x.c.n.s, .int .i64 x.c.n.y, .bool x.c.n.a, .int .i64 x.c.ad, .int .i64 x.c.st, .int .i64 x.c.lf, .slice a1 x.c.tk.length c1] : List Value)[j]? = some v → (#[.int .i64 x.c.n.u, .int .i64 x.c.n.m, .int .i64 x.c.n.i, .int .i64 x.c.n.f, .int .i64 x.c.n.c, .int .i64 x.c.n.s, .int .i64 x.c.n.y, .bool x.c.n.a, .int .i64 x.c.ad, .int .i64 x.c.st, .int .i64 x.c.lf, .slice a1 x.c.tk.length c1, .slice a2 x.q.length c2, .slice a3 x.t.length c3, .slice a4 x.d.length c4, .slice a5 x.g.length c5, .int .i64 x.s] : Array Value)[0 + j]? = some v := by
  intro j v hv
  rcases j with _ | _ | _ | _ | _ | _ | _ | _ | _ | _ | _ | _ | j
  all_goals first | exact hv | (simp at hv)
theorem subQ12 {x : Nd} {a1 a2 a3 a4 a5 : Option Addr} {c1 c2 c3 c4 c5 : Nat} : ∀ (j : Nat) (v : Value), ([.slice a2 x.q.length c2] : List Value)[j]? = some v → (#[.int .i64 x.c.n.u, .int .i64 x.c.n.m, .int .i64 x.c.n.i, .int .i64 x.c.n.f, .int .i64 x.c.n.c, .int .i64 x.c.n.s, .int .i64 x.c.n.y, .bool x.c.n.a, .int .i64 x.c.ad, .int .i64 x.c.st, .int .i64 x.c.lf, .slice a1 x.c.tk.length c1, .slice a2 x.q.length c2, .slice a3 x.t.length c3, .slice a4 x.d.length c4, .slice a5 x.g.length c5, .int .i64 x.s] : Array Value)[12 + j]? = some v := by
  intro j v hv
  rcases j with _ | j
  all_goals first | exact hv | (simp at hv)
set_option maxRecDepth 100000 in
set_option maxHeartbeats 32000000 in
theorem claimed_any (x : Nd) (a1 a2 a3 a4 a5 : Option Addr) (c1 c2 c3 c4 c5 : Nat) (w : World) (i1 : NumsIn w a1 x.c.tk) (i2 : CansIn w a2 x.q) (hok : CansOk x.q) (s1 : x.c.tk.length ≤ 1048576) (s2 : x.q.length ≤ 1048576) :
    Calls Try.prog 86 #[ndV x a1 a2 a3 a4 a5 c1 c2 c3 c4 c5] w fun e w' => ∃ y d, e = .returned (ndV (clmN x) a1 y a3 a4 a5 c1 d c3 c4 c5) ∧ CansIn w' y (clmQ x) ∧ Below w.heap.size w w' := by
  obtain ⟨i0, hi, hz0, hz1, hz2⟩ := info_parts CansTo.info
  have HI0 := Lib.hid (And.intro hi (And.intro hz0 hz1))
  have HI1 := Lib.hid i1
  have HI2 := Lib.hid i2
  have HC1 := fun W h => Lib.hid (implClaimCan_any x.c.n x.c.ad x.c.st x.c.lf a1 c1 x.c.tk W h s1)
  have hcx : clCanV ⟨x.c.n, x.c.ad, x.c.st, x.c.lf, x.c.tk⟩ = .agg #[.int .i64 (clCan x.c).1, .string (clCan x.c).2] := clCan_val x.c
  rw [hcx] at HC1
  have HOk := clCan_ok x.c
  have HQ1 : clmQ x = if putCode x.q [clCan x.c] = 0 then x.q ++ [clCan x.c] else x.q := rfl
  have hN : clmN x = { x with q := clmQ x } := rfl
  rw [hN]
  obtain ⟨⟨m, s⟩, hms⟩ : ∃ y, clCan x.c = y := ⟨_, rfl⟩
  rw [hms] at HC1 HOk HQ1
  dsimp only at HC1
  clear i1 i2 hi hz0 hz1 hz2 hcx hN s1 hms
  obtain ⟨cd, hcd⟩ : ∃ c, putCode x.q [(m, s)] = c := ⟨_, rfl⟩
  obtain ⟨L, hL⟩ : ∃ l, putL x.q [(m, s)] = l := ⟨_, rfl⟩
  have HP := fun a' c' W h h' => Lib.hid (implQueuePut_new a2 a' c2 c' x.q [(m, s)] W h hok s2 h' HOk (by simp))
  rw [hcd, hL] at HP
  have HLq : Hid (clmQ x = if cd = 0 then L else x.q) := Lib.hid (by
    rw [HQ1, hcd, ← hL]
    split
    · rename_i h0
      unfold putL
      rw [hcd, if_pos h0]
    · rfl)
  obtain ⟨q', hq'⟩ : ∃ l, clmQ x = l := ⟨_, rfl⟩
  rw [hq'] at HLq ⊢
  clear HQ1 hcd hL hq' hok HOk s2
  unfold ndV
  dsimp only
  go_enter Try.func86, Try.ntmps86
  go_wp2_with (first
    | (refine wpList_box_h rfl 136 (.tmp 0) rfl #[.int .i64 x.c.n.u, .int .i64 x.c.n.m, .int .i64 x.c.n.i, .int .i64 x.c.n.f, .int .i64 x.c.n.c, .int .i64 x.c.n.s, .int .i64 x.c.n.y, .bool x.c.n.a, .int .i64 x.c.ad, .int .i64 x.c.st, .int .i64 x.c.lf, .slice a1 x.c.tk.length c1, .slice a2 x.q.length c2, .slice a3 x.t.length c3, .slice a4 x.d.length c4, .slice a5 x.g.length c5, .int .i64 x.s] rfl ?_; intro w1 R1 e1 g1 b1; have HL1 := Lib.hid (show Lg w w1 [(R1, #[.int .i64 x.c.n.u, .int .i64 x.c.n.m, .int .i64 x.c.n.i, .int .i64 x.c.n.f, .int .i64 x.c.n.c, .int .i64 x.c.n.s, .int .i64 x.c.n.y, .bool x.c.n.a, .int .i64 x.c.ad, .int .i64 x.c.st, .int .i64 x.c.lf, .slice a1 x.c.tk.length c1, .slice a2 x.q.length c2, .slice a3 x.t.length c3, .slice a4 x.d.length c4, .slice a5 x.g.length c5, .int .i64 x.s], 136)] [] from (Lg.first w).box e1 g1 b1); clear g1 b1 e1)
    | (refine wpList_alloc_h rfl 136 rfl (.agg #[.int .i64 0, .int .i64 0, .int .i64 0, .int .i64 0, .int .i64 0, .int .i64 0, .int .i64 0, .bool false, .int .i64 0, .int .i64 0, .int .i64 0, .slice none 0 0, .slice none 0 0, .slice none 0 0, .slice none 0 0, .slice none 0 0, .int .i64 0]) (by kernel_rfl) #[.int .i64 0, .int .i64 0, .int .i64 0, .int .i64 0, .int .i64 0, .int .i64 0, .int .i64 0, .bool false, .int .i64 0, .int .i64 0, .int .i64 0, .slice none 0 0, .slice none 0 0, .slice none 0 0, .slice none 0 0, .slice none 0 0, .int .i64 0] rfl ?_; intro w2 R2 e2 g2 b2; have qR2_R1 : R1 < R2 := Nat.lt_of_lt_of_eq (HL1.out.lt (.head _)) e2; have HL2 := Lib.hid (show Lg w w2 [(R2, #[.int .i64 0, .int .i64 0, .int .i64 0, .int .i64 0, .int .i64 0, .int .i64 0, .int .i64 0, .bool false, .int .i64 0, .int .i64 0, .int .i64 0, .slice none 0 0, .slice none 0 0, .slice none 0 0, .slice none 0 0, .slice none 0 0, .int .i64 0], 136), (R1, #[.int .i64 x.c.n.u, .int .i64 x.c.n.m, .int .i64 x.c.n.i, .int .i64 x.c.n.f, .int .i64 x.c.n.c, .int .i64 x.c.n.s, .int .i64 x.c.n.y, .bool x.c.n.a, .int .i64 x.c.ad, .int .i64 x.c.st, .int .i64 x.c.lf, .slice a1 x.c.tk.length c1, .slice a2 x.q.length c2, .slice a3 x.t.length c3, .slice a4 x.d.length c4, .slice a5 x.g.length c5, .int .i64 x.s], 136)] [] from HL1.out.box e2 g2 b2); clear g2 b2 e2))
  have HRb := Lib.hid (HL2.out.get (.tail _ (.head _)))
  have HRr := Lib.hid (HL2.out.get (.head _))
  have hR1 : R1 < w2.heap.size := HL2.out.lt (.tail _ (.head _))
  have HBb := Lib.hid HL2.out.below
  have HRk := fun W (h : Below w2.heap.size w2 W) => Lib.hid ((h.block R1 hR1).trans HRb.out)
  refine wp_region_anyordZ 7 (fun W => Below w2.heap.size w2 W) (RQ cd L w2.heap.size) (TQ R1 w2.heap.size x a1 a2 c1 c2 m s cd L) (by kernel_rfl) (by kernel_rfl) (by kernel_rfl) TQ.kept ?_ (Below.refl _ _).drew ?_ ?_
  · intro j o ho hz hd ww z z' v hT
    rcases j with _ | _ | _ | _ | _ | _ | _ | _ | _ | j
    · exact hT
    · exact hT
    · exact hT
    · exact hT
    · exact hT
    · exact hT
    · exact hT
    · exact absurd rfl hz
    · cases ho
      exact absurd (hd.symm.trans (show _ = true from by kernel_rfl)) (by simp)
    · trivial
  · refine ⟨⟨rfl, fun a_ W z hC hK => ?_⟩, ⟨rfl, fun a_ W z hC hK => ?_⟩, ⟨rfl, fun a_ W z hC hK => ?_⟩, ⟨rfl, fun a_ W z hC hK => ?_⟩, ⟨rfl, fun a_ W z hC hK => ?_⟩, ⟨rfl, fun a_ W z hC hK => ?_⟩, ⟨rfl, fun a_ W z hC hK => ?_⟩, ⟨rfl, fun a_ W z hC hK => ?_⟩, ⟨rfl, fun a_ W z hC hK => ?_⟩, trivial⟩
    · have e1 : a_.eval (.tmp 1) = .pointer (some ⟨R1, 0, none⟩) := (hK.old 1 (by kernel_rfl)).trans rfl
      have c0 := cell_of_row W R1 0 _ _ (0, 0) (HRk W hC).out
      simp only [Act.eval, Array.getD_eq_getD_getElem?] at e1
      exact ob_value (v := .pointer (some ⟨R1, 12, none⟩)) (w' := W) (by simp [execOp, go_sem, e1]) ⟨_, rfl, hC, RQ.refl, rfl⟩
    · have e1 : a_.eval (.tmp 4) = .pointer (some ⟨R1, 12, none⟩) := hK.get 0 4 (by kernel_rfl) rfl rfl rfl
      exact wp_load_mid 63 (.tmp 4) rfl R1 12 e1 [.slice a2 x.q.length c2] _ (fun j v hv => (cell_of_row W R1 (12 + j) _ _ (0, 0) (HRk W hC).out).trans (subQ12 j v hv)) Try.underlying63 rfl (by kernel_rfl) ⟨_, rfl, hC, RQ.refl, rfl⟩
    · have e1 : a_.eval (.tmp 1) = .pointer (some ⟨R1, 0, none⟩) := (hK.old 1 (by kernel_rfl)).trans rfl
      have c0 := cell_of_row W R1 0 _ _ (0, 0) (HRk W hC).out
      simp only [Act.eval, Array.getD_eq_getD_getElem?] at e1
      exact ob_value (v := .pointer (some ⟨R1, 0, none⟩)) (w' := W) (by simp [execOp, go_sem, e1]) ⟨_, rfl, hC, RQ.refl, rfl⟩
    · have e1 : a_.eval (.tmp 6) = .pointer (some ⟨R1, 0, none⟩) := hK.get 2 6 (by kernel_rfl) rfl rfl rfl
      exact wp_load_mid 60 (.tmp 6) rfl R1 0 e1 [.int .i64 x.c.n.u, .int .i64 x.c.n.m, .int .i64 x.c.n.i, .int .i64 x.c.n.f, .int .i64 x.c.n.c, .int .i64 x.c.n.s, .int .i64 x.c.n.y, .bool x.c.n.a, .int .i64 x.c.ad, .int .i64 x.c.st, .int .i64 x.c.lf, .slice a1 x.c.tk.length c1] _ (fun j v hv => (cell_of_row W R1 (0 + j) _ _ (0, 0) (HRk W hC).out).trans (subQ0 j v hv)) Try.underlying60 rfl (by kernel_rfl) ⟨_, rfl, hC, RQ.refl, rfl⟩
    · have e1 : a_.eval (.tmp 7) = .agg #[.int .i64 x.c.n.u, .int .i64 x.c.n.m, .int .i64 x.c.n.i, .int .i64 x.c.n.f, .int .i64 x.c.n.c, .int .i64 x.c.n.s, .int .i64 x.c.n.y, .bool x.c.n.a, .int .i64 x.c.ad, .int .i64 x.c.st, .int .i64 x.c.lf, .slice a1 x.c.tk.length c1] := hK.get 3 7 (by kernel_rfl) rfl rfl rfl
      simp only [Act.eval, Array.getD_eq_getD_getElem?] at e1
      refine ob_call rfl Try.func133 (by kernel_rfl) (by kernel_rfl) (vals := #[.agg #[.int .i64 x.c.n.u, .int .i64 x.c.n.m, .int .i64 x.c.n.i, .int .i64 x.c.n.f, .int .i64 x.c.n.c, .int .i64 x.c.n.s, .int .i64 x.c.n.y, .bool x.c.n.a, .int .i64 x.c.ad, .int .i64 x.c.st, .int .i64 x.c.lf, .slice a1 x.c.tk.length c1]]) (by simp [Act.eval, e1]) ?_
      refine (HC1 W (HI1.out.kept (HBb.out.trans (hC.mono HBb.out.size)))).out.mono ?_
      rintro e W' ⟨rfl, hb⟩
      exact ⟨_, rfl, _, rfl, hC.trans (hb.mono hC.size), RQ.below hb, rfl⟩
    · have e1 : a_.eval (.tmp 8) = .agg #[.int .i64 m, .string s] := hK.get 4 8 (by kernel_rfl) rfl rfl rfl
      have hr : RQ cd L w2.heap.size W (W.alloc (.cells #[.int .i64 m, .string s] 133 (0, 0))) := RQ.below ((Below.refl _ _).alloc (Nat.le_refl _) _)
      exact ob_lit1_row 61 (.tmp 8) rfl 133 i0 Try.underlying61 HI0.out.1 _ HI0.out.2.1 HI0.out.2.2 [.int .i64 m, .string s] _ e1 rfl rfl (by rfl) (by decide) (by decide) ⟨_, rfl, hC.alloc hC.size _, hr, _, rfl, heap_alloc_new W _⟩
    · have e1 : a_.eval (.tmp 5) = .agg #[.slice a2 x.q.length c2] := hK.get 1 5 (by kernel_rfl) rfl rfl rfl
      obtain ⟨G, e2, hg⟩ : TQ R1 w2.heap.size x a1 a2 c1 c2 m s cd L 5 W z (a_.eval (.tmp 9)) := hK.get 5 9 (by kernel_rfl) rfl rfl rfl
      have hin : CansIn W (some ⟨G, 0, none⟩) [(m, s)] := .inr ⟨G, 0, rfl, (Array.getElem?_eq_some_iff.1 hg).1, fun i y hy => by
        rcases i with _ | i
        · simp at hy
          subst hy
          exact ⟨cell_of_row W G 0 _ _ (0, 0) hg, cell_of_row W G 1 _ _ (0, 0) hg⟩
        · simp at hy⟩
      simp only [Act.eval, Array.getD_eq_getD_getElem?] at e1 e2
      refine ob_call rfl Try.func132 (by kernel_rfl) (by kernel_rfl) (vals := #[.agg #[.slice a2 x.q.length c2], .slice (some ⟨G, 0, none⟩) 1 1]) (by simp [Act.eval, e1, e2]) ?_
      refine (HP (some ⟨G, 0, none⟩) 1 W (HI2.out.kept (HBb.out.trans (hC.mono HBb.out.size))) hin).out.mono ?_
      rintro e W' ⟨y, d, rfl, hn, hb⟩
      exact ⟨_, rfl, _, rfl, hC.trans (hb.mono hC.size), RQ.below hb, y, d, rfl, hn.wide hC.size (Nat.le_refl _)⟩
    · exact ob_value (v := .pointer (some ⟨W.heap.size, 0, none⟩)) (w' := W.alloc zqO) (by unfold zqO; simp [execOp, go_sem]; rfl) ⟨_, rfl, hC.alloc hC.size _, RQ.below ((Below.refl _ _).alloc (Nat.le_refl _) _), rfl, W.heap.size, rfl, hC.size, .inl (heap_alloc_new W _)⟩
    · obtain ⟨e1, k, rfl, hlo, hk⟩ : TQ R1 w2.heap.size x a1 a2 c1 c2 m s cd L 7 W z (a_.eval (.tmp 3)) := hK.get 7 3 (by kernel_rfl) rfl rfl rfl
      obtain ⟨y, d, e2, hr⟩ : TQ R1 w2.heap.size x a1 a2 c1 c2 m s cd L 6 W _ (a_.eval (.tmp 10)) := hK.get 6 10 (by kernel_rfl) rfl rfl rfl
      have hkz : ∃ old, W.heap[k]? = some (.cells old 186 (0, 0)) := hk.elim (fun h => ⟨_, h⟩) (fun ⟨_, _, h, _⟩ => ⟨_, h⟩)
      have hfin : ∀ w', w'.heap[k]? = some (.cells #[.slice y L.length d, .int .i64 0, .string ⟨#[]⟩, .int .i64 cd] 186 (0, 0)) → Out k (k + 1) W w' → ∃ v, a_.put none undef = a_.put none v ∧ Below w2.heap.size w2 w' ∧ RQ cd L w2.heap.size W w' ∧ TQ R1 w2.heap.size x a1 a2 c1 c2 m s cd L 8 w' (if (8 : Nat) = 7 then v else .pointer (some ⟨k, 0, none⟩)) v := fun w' hg ho => by
        have hr' : RsNew canL 2 133 w2.heap.size w'.heap.size w' y L := by
          rcases hr with hr | ⟨b, o, row, rfl, p1, p2, hgb, q⟩
          · exact .inl hr
          · have hne : b ≠ k := by
              rintro rfl
              obtain ⟨old, hold⟩ := hkz
              rw [hgb] at hold
              injection hold with hold
              injection hold with _ ht _
              exact absurd ht (by decide)
            exact .inr ⟨b, o, row, rfl, p1, Nat.lt_of_lt_of_le p2 ho.size, (ho.block b p2 (by omega)).trans hgb, q⟩
        have hA : AnsQ cd L w2.heap.size k w' := ⟨y, d, hg, hr'⟩
        refine ⟨undef, rfl, ho.below hC hlo hC.size, ⟨ho.size, fun j hj => ?_⟩, k, rfl, hlo, hA⟩
        by_cases hjk : j = k
        · subst hjk
          exact .inr ⟨hk, hA⟩
        · exact .inl (ho.block j hj (by omega))
      rcases hk with hk | ⟨y', d', hk, -⟩
      · exact ob_put_row 186 (.tmp 3) (.tmp 10) rfl k e1 _ e2 _ rfl 186 _ _ hk (by kernel_rfl) (by kernel_rfl) (by kernel_rfl) (by kernel_rfl) hfin
      · exact ob_put_row 186 (.tmp 3) (.tmp 10) rfl k e1 _ e2 _ rfl 186 _ _ hk (by kernel_rfl) (by kernel_rfl) (by kernel_rfl) (by kernel_rfl) hfin
  · intro vs W hC hT
    obtain ⟨e7, k, e7', hlo, -⟩ : TQ R1 w2.heap.size x a1 a2 c1 c2 m s cd L 7 W (vs 7) (vs 7) := hT 7 (by decide)
    obtain ⟨k', e8, -, y, d, hk, hr⟩ : TQ R1 w2.heap.size x a1 a2 c1 c2 m s cd L 8 W (vs 7) (vs 8) := hT 8 (by decide)
    obtain rfl : k = k' := by
      have := e7'.symm.trans e8
      simpa using this
    simp only [fillL, if_true, Act.put, List.setIfInBounds_toArray, List.set_cons_zero, List.set_cons_succ, e7']
    obtain ⟨L3, eL3⟩ : ∃ l, w2.heap.size = l := ⟨_, rfl⟩
    obtain ⟨H3, eH3⟩ : ∃ l, W.heap.size = l := ⟨_, rfl⟩
    have qL3_R2 : R2 < L3 := eL3 ▸ HL2.out.lt (.head _)
    have qL3_R1 : R1 < L3 := eL3 ▸ hR1
    have hLH : L3 ≤ H3 := by rw [← eL3, ← eH3]; exact hC.size
    rw [eL3, eH3] at hr
    have qk_R2 : R2 < k := Nat.lt_of_lt_of_le (HL2.out.lt (.head _)) hlo
    have qk_R1 : R1 < k := Nat.lt_of_lt_of_le hR1 hlo
    have HL3 := Lib.hid (show Lg w W [(k, #[.slice y L.length d, .int .i64 0, .string ⟨#[]⟩, .int .i64 cd], 186), (R2, #[.int .i64 0, .int .i64 0, .int .i64 0, .int .i64 0, .int .i64 0, .int .i64 0, .int .i64 0, .bool false, .int .i64 0, .int .i64 0, .int .i64 0, .slice none 0 0, .slice none 0 0, .slice none 0 0, .slice none 0 0, .slice none 0 0, .int .i64 0], 136), (R1, #[.int .i64 x.c.n.u, .int .i64 x.c.n.m, .int .i64 x.c.n.i, .int .i64 x.c.n.f, .int .i64 x.c.n.c, .int .i64 x.c.n.s, .int .i64 x.c.n.y, .bool x.c.n.a, .int .i64 x.c.ad, .int .i64 x.c.st, .int .i64 x.c.lf, .slice a1 x.c.tk.length c1, .slice a2 x.q.length c2, .slice a3 x.t.length c3, .slice a4 x.d.length c4, .slice a5 x.g.length c5, .int .i64 x.s], 136)] [(L3, H3, (fun W => RsNew canL 2 133 L3 H3 W y L))] from ((HL2.out.kept hC).addRow hk (Nat.le_trans HL2.out.below.size hlo)).addNew hr.solid (eL3 ▸ HL2.out.below.size) hLH (Nat.le_of_eq eH3.symm))
    clear hC hT e7 e7' e8 hk hr hLH eL3 eH3
    by_cases h0 : cd = 0
    · subst h0
      have hq : q' = L := HLq.out
      subst hq
      go_wp2_with (first
        | (refine wpList_load_one rfl 2 (.tmp 11) rfl (k) 3 rfl 186 #[.slice y q'.length d, .int .i64 0, .string ⟨#[]⟩, .int .i64 0] (0, 0) (HL3.out.get (.head _)) (.int .i64 0) rfl _ Try.underlying2 rfl (by kernel_rfl) ?_)
        | (refine wpList_load_at rfl 63 (.tmp 14) rfl (k) 0 rfl 186 #[.slice y q'.length d, .int .i64 0, .string ⟨#[]⟩, .int .i64 0] (0, 0) (HL3.out.get (.head _)) [.slice y q'.length d] rfl _ Try.underlying63 rfl (by kernel_rfl) ?_)
        | (refine wpList_put_at rfl 63 (.tmp 16) (.tmp 15) rfl rfl (R1) 12 rfl (.agg #[.slice y q'.length d]) rfl #[.slice y q'.length d] rfl 136 #[.int .i64 x.c.n.u, .int .i64 x.c.n.m, .int .i64 x.c.n.i, .int .i64 x.c.n.f, .int .i64 x.c.n.c, .int .i64 x.c.n.s, .int .i64 x.c.n.y, .bool x.c.n.a, .int .i64 x.c.ad, .int .i64 x.c.st, .int .i64 x.c.lf, .slice a1 x.c.tk.length c1, .slice a2 x.q.length c2, .slice a3 x.t.length c3, .slice a4 x.d.length c4, .slice a5 x.g.length c5, .int .i64 x.s] #[.int .i64 x.c.n.u, .int .i64 x.c.n.m, .int .i64 x.c.n.i, .int .i64 x.c.n.f, .int .i64 x.c.n.c, .int .i64 x.c.n.s, .int .i64 x.c.n.y, .bool x.c.n.a, .int .i64 x.c.ad, .int .i64 x.c.st, .int .i64 x.c.lf, .slice a1 x.c.tk.length c1, .slice y q'.length d, .slice a3 x.t.length c3, .slice a4 x.d.length c4, .slice a5 x.g.length c5, .int .i64 x.s] (HL3.out.get (.tail _ (.tail _ (.head _)))) (by kernel_rfl) (by kernel_rfl) (by kernel_rfl) (by kernel_rfl) ?_; intro w4 g4 o4; have HL4 := Lib.hid (show Lg w w4 [(k, #[.slice y q'.length d, .int .i64 0, .string ⟨#[]⟩, .int .i64 0], 186), (R2, #[.int .i64 0, .int .i64 0, .int .i64 0, .int .i64 0, .int .i64 0, .int .i64 0, .int .i64 0, .bool false, .int .i64 0, .int .i64 0, .int .i64 0, .slice none 0 0, .slice none 0 0, .slice none 0 0, .slice none 0 0, .slice none 0 0, .int .i64 0], 136), (R1, #[.int .i64 x.c.n.u, .int .i64 x.c.n.m, .int .i64 x.c.n.i, .int .i64 x.c.n.f, .int .i64 x.c.n.c, .int .i64 x.c.n.s, .int .i64 x.c.n.y, .bool x.c.n.a, .int .i64 x.c.ad, .int .i64 x.c.st, .int .i64 x.c.lf, .slice a1 x.c.tk.length c1, .slice y q'.length d, .slice a3 x.t.length c3, .slice a4 x.d.length c4, .slice a5 x.g.length c5, .int .i64 x.s], 136)] [(L3, H3, (fun W => RsNew canL 2 133 L3 H3 W y q'))] from HL3.out.put 2 rfl g4 o4 (List.forall_mem_cons.2 ⟨Nat.ne_of_gt qk_R1, (List.forall_mem_cons.2 ⟨Nat.ne_of_gt qR2_R1, (fun _ h => nomatch h)⟩)⟩) (List.forall_mem_cons.2 ⟨.inr qL3_R1, (fun _ h => nomatch h)⟩) rfl); clear g4 o4)
        | (refine wpList_load_at rfl 136 (.tmp 1) rfl (R1) 0 rfl 136 #[.int .i64 x.c.n.u, .int .i64 x.c.n.m, .int .i64 x.c.n.i, .int .i64 x.c.n.f, .int .i64 x.c.n.c, .int .i64 x.c.n.s, .int .i64 x.c.n.y, .bool x.c.n.a, .int .i64 x.c.ad, .int .i64 x.c.st, .int .i64 x.c.lf, .slice a1 x.c.tk.length c1, .slice y q'.length d, .slice a3 x.t.length c3, .slice a4 x.d.length c4, .slice a5 x.g.length c5, .int .i64 x.s] (0, 0) (HL4.out.get (.tail _ (.tail _ (.head _)))) [.int .i64 x.c.n.u, .int .i64 x.c.n.m, .int .i64 x.c.n.i, .int .i64 x.c.n.f, .int .i64 x.c.n.c, .int .i64 x.c.n.s, .int .i64 x.c.n.y, .bool x.c.n.a, .int .i64 x.c.ad, .int .i64 x.c.st, .int .i64 x.c.lf, .slice a1 x.c.tk.length c1, .slice y q'.length d, .slice a3 x.t.length c3, .slice a4 x.d.length c4, .slice a5 x.g.length c5, .int .i64 x.s] rfl _ Try.underlying136 rfl (by kernel_rfl) ?_)
        | (refine wpList_put_at rfl 136 (.tmp 2) (.tmp 17) rfl rfl (R2) 0 rfl (.agg #[.int .i64 x.c.n.u, .int .i64 x.c.n.m, .int .i64 x.c.n.i, .int .i64 x.c.n.f, .int .i64 x.c.n.c, .int .i64 x.c.n.s, .int .i64 x.c.n.y, .bool x.c.n.a, .int .i64 x.c.ad, .int .i64 x.c.st, .int .i64 x.c.lf, .slice a1 x.c.tk.length c1, .slice y q'.length d, .slice a3 x.t.length c3, .slice a4 x.d.length c4, .slice a5 x.g.length c5, .int .i64 x.s]) rfl #[.int .i64 x.c.n.u, .int .i64 x.c.n.m, .int .i64 x.c.n.i, .int .i64 x.c.n.f, .int .i64 x.c.n.c, .int .i64 x.c.n.s, .int .i64 x.c.n.y, .bool x.c.n.a, .int .i64 x.c.ad, .int .i64 x.c.st, .int .i64 x.c.lf, .slice a1 x.c.tk.length c1, .slice y q'.length d, .slice a3 x.t.length c3, .slice a4 x.d.length c4, .slice a5 x.g.length c5, .int .i64 x.s] rfl 136 #[.int .i64 0, .int .i64 0, .int .i64 0, .int .i64 0, .int .i64 0, .int .i64 0, .int .i64 0, .bool false, .int .i64 0, .int .i64 0, .int .i64 0, .slice none 0 0, .slice none 0 0, .slice none 0 0, .slice none 0 0, .slice none 0 0, .int .i64 0] #[.int .i64 x.c.n.u, .int .i64 x.c.n.m, .int .i64 x.c.n.i, .int .i64 x.c.n.f, .int .i64 x.c.n.c, .int .i64 x.c.n.s, .int .i64 x.c.n.y, .bool x.c.n.a, .int .i64 x.c.ad, .int .i64 x.c.st, .int .i64 x.c.lf, .slice a1 x.c.tk.length c1, .slice y q'.length d, .slice a3 x.t.length c3, .slice a4 x.d.length c4, .slice a5 x.g.length c5, .int .i64 x.s] (HL4.out.get (.tail _ (.head _))) (by kernel_rfl) (by kernel_rfl) (by kernel_rfl) (by kernel_rfl) ?_; intro w5 g5 o5; have HL5 := Lib.hid (show Lg w w5 [(k, #[.slice y q'.length d, .int .i64 0, .string ⟨#[]⟩, .int .i64 0], 186), (R2, #[.int .i64 x.c.n.u, .int .i64 x.c.n.m, .int .i64 x.c.n.i, .int .i64 x.c.n.f, .int .i64 x.c.n.c, .int .i64 x.c.n.s, .int .i64 x.c.n.y, .bool x.c.n.a, .int .i64 x.c.ad, .int .i64 x.c.st, .int .i64 x.c.lf, .slice a1 x.c.tk.length c1, .slice y q'.length d, .slice a3 x.t.length c3, .slice a4 x.d.length c4, .slice a5 x.g.length c5, .int .i64 x.s], 136), (R1, #[.int .i64 x.c.n.u, .int .i64 x.c.n.m, .int .i64 x.c.n.i, .int .i64 x.c.n.f, .int .i64 x.c.n.c, .int .i64 x.c.n.s, .int .i64 x.c.n.y, .bool x.c.n.a, .int .i64 x.c.ad, .int .i64 x.c.st, .int .i64 x.c.lf, .slice a1 x.c.tk.length c1, .slice y q'.length d, .slice a3 x.t.length c3, .slice a4 x.d.length c4, .slice a5 x.g.length c5, .int .i64 x.s], 136)] [(L3, H3, (fun W => RsNew canL 2 133 L3 H3 W y q'))] from HL4.out.put 1 rfl g5 o5 (List.forall_mem_cons.2 ⟨Nat.ne_of_gt qk_R2, (List.forall_mem_cons.2 ⟨Nat.ne_of_lt qR2_R1, (fun _ h => nomatch h)⟩)⟩) (List.forall_mem_cons.2 ⟨.inr qL3_R2, (fun _ h => nomatch h)⟩) rfl); clear g5 o5))
      exact bodyPost_ret (results_cell_row (p := 2) (ty := 136) (by kernel_rfl) _ _ (R2) 136 _ (0, 0) _ rfl (HL5.out.get (.tail _ (.head _))) Try.underlying136 rfl (by kernel_rfl)) rfl ⟨y, ⟨d, rfl⟩, (HL5.out.at (.head _)).cans.cans, HL5.out.below⟩
    · have hq : q' = x.q := HLq.out.trans (if_neg h0)
      subst hq
      have hd : (cd == 0) = false := beq_eq_false_iff_ne.2 h0
      go_wp2_with (first
        | (refine wpList_load_one rfl 2 (.tmp 11) rfl (k) 3 rfl 186 #[.slice y L.length d, .int .i64 0, .string ⟨#[]⟩, .int .i64 cd] (0, 0) (HL3.out.get (.head _)) (.int .i64 cd) rfl _ Try.underlying2 rfl (by kernel_rfl) ?_)
        | (refine wpList_load_at rfl 136 (.tmp 1) rfl (R1) 0 rfl 136 #[.int .i64 x.c.n.u, .int .i64 x.c.n.m, .int .i64 x.c.n.i, .int .i64 x.c.n.f, .int .i64 x.c.n.c, .int .i64 x.c.n.s, .int .i64 x.c.n.y, .bool x.c.n.a, .int .i64 x.c.ad, .int .i64 x.c.st, .int .i64 x.c.lf, .slice a1 x.c.tk.length c1, .slice a2 x.q.length c2, .slice a3 x.t.length c3, .slice a4 x.d.length c4, .slice a5 x.g.length c5, .int .i64 x.s] (0, 0) (HL3.out.get (.tail _ (.tail _ (.head _)))) [.int .i64 x.c.n.u, .int .i64 x.c.n.m, .int .i64 x.c.n.i, .int .i64 x.c.n.f, .int .i64 x.c.n.c, .int .i64 x.c.n.s, .int .i64 x.c.n.y, .bool x.c.n.a, .int .i64 x.c.ad, .int .i64 x.c.st, .int .i64 x.c.lf, .slice a1 x.c.tk.length c1, .slice a2 x.q.length c2, .slice a3 x.t.length c3, .slice a4 x.d.length c4, .slice a5 x.g.length c5, .int .i64 x.s] rfl _ Try.underlying136 rfl (by kernel_rfl) ?_)
        | (refine wpList_put_at rfl 136 (.tmp 2) (.tmp 17) rfl rfl (R2) 0 rfl (.agg #[.int .i64 x.c.n.u, .int .i64 x.c.n.m, .int .i64 x.c.n.i, .int .i64 x.c.n.f, .int .i64 x.c.n.c, .int .i64 x.c.n.s, .int .i64 x.c.n.y, .bool x.c.n.a, .int .i64 x.c.ad, .int .i64 x.c.st, .int .i64 x.c.lf, .slice a1 x.c.tk.length c1, .slice a2 x.q.length c2, .slice a3 x.t.length c3, .slice a4 x.d.length c4, .slice a5 x.g.length c5, .int .i64 x.s]) rfl #[.int .i64 x.c.n.u, .int .i64 x.c.n.m, .int .i64 x.c.n.i, .int .i64 x.c.n.f, .int .i64 x.c.n.c, .int .i64 x.c.n.s, .int .i64 x.c.n.y, .bool x.c.n.a, .int .i64 x.c.ad, .int .i64 x.c.st, .int .i64 x.c.lf, .slice a1 x.c.tk.length c1, .slice a2 x.q.length c2, .slice a3 x.t.length c3, .slice a4 x.d.length c4, .slice a5 x.g.length c5, .int .i64 x.s] rfl 136 #[.int .i64 0, .int .i64 0, .int .i64 0, .int .i64 0, .int .i64 0, .int .i64 0, .int .i64 0, .bool false, .int .i64 0, .int .i64 0, .int .i64 0, .slice none 0 0, .slice none 0 0, .slice none 0 0, .slice none 0 0, .slice none 0 0, .int .i64 0] #[.int .i64 x.c.n.u, .int .i64 x.c.n.m, .int .i64 x.c.n.i, .int .i64 x.c.n.f, .int .i64 x.c.n.c, .int .i64 x.c.n.s, .int .i64 x.c.n.y, .bool x.c.n.a, .int .i64 x.c.ad, .int .i64 x.c.st, .int .i64 x.c.lf, .slice a1 x.c.tk.length c1, .slice a2 x.q.length c2, .slice a3 x.t.length c3, .slice a4 x.d.length c4, .slice a5 x.g.length c5, .int .i64 x.s] (HL3.out.get (.tail _ (.head _))) (by kernel_rfl) (by kernel_rfl) (by kernel_rfl) (by kernel_rfl) ?_; intro w4 g4 o4; have HL4 := Lib.hid (show Lg w w4 [(k, #[.slice y L.length d, .int .i64 0, .string ⟨#[]⟩, .int .i64 cd], 186), (R2, #[.int .i64 x.c.n.u, .int .i64 x.c.n.m, .int .i64 x.c.n.i, .int .i64 x.c.n.f, .int .i64 x.c.n.c, .int .i64 x.c.n.s, .int .i64 x.c.n.y, .bool x.c.n.a, .int .i64 x.c.ad, .int .i64 x.c.st, .int .i64 x.c.lf, .slice a1 x.c.tk.length c1, .slice a2 x.q.length c2, .slice a3 x.t.length c3, .slice a4 x.d.length c4, .slice a5 x.g.length c5, .int .i64 x.s], 136), (R1, #[.int .i64 x.c.n.u, .int .i64 x.c.n.m, .int .i64 x.c.n.i, .int .i64 x.c.n.f, .int .i64 x.c.n.c, .int .i64 x.c.n.s, .int .i64 x.c.n.y, .bool x.c.n.a, .int .i64 x.c.ad, .int .i64 x.c.st, .int .i64 x.c.lf, .slice a1 x.c.tk.length c1, .slice a2 x.q.length c2, .slice a3 x.t.length c3, .slice a4 x.d.length c4, .slice a5 x.g.length c5, .int .i64 x.s], 136)] [(L3, H3, (fun W => RsNew canL 2 133 L3 H3 W y L))] from HL3.out.put 1 rfl g4 o4 (List.forall_mem_cons.2 ⟨Nat.ne_of_gt qk_R2, (List.forall_mem_cons.2 ⟨Nat.ne_of_lt qR2_R1, (fun _ h => nomatch h)⟩)⟩) (List.forall_mem_cons.2 ⟨.inr qL3_R2, (fun _ h => nomatch h)⟩) rfl); clear g4 o4))
      exact bodyPost_ret (results_cell_row (p := 2) (ty := 136) (by kernel_rfl) _ _ (R2) 136 _ (0, 0) _ rfl (HL4.out.get (.tail _ (.head _))) Try.underlying136 rfl (by kernel_rfl)) rfl ⟨a2, c2, rfl, HI2.out.kept HL4.out.below, HL4.out.below⟩
end Go.Proofs.Ytpolpkheaibonaa
/- A Claim that waits, and a new one: the program's. Nothing that was there is written. -/
namespace Go.Proofs.Ytpolpkheaibonaa
open Go.RowKit
set_option linter.unusedVariables false

set_option maxRecDepth 100000 in
set_option maxHeartbeats 2000000 in
theorem waitingFor_any (n : Nm) (ad : Int) (a : Option Addr) (N cap : Nat) (w : World) :
    Calls Try.prog 131 #[nmV n, .int .i64 ad, .slice a N cap] w fun e w' => e = .returned (clV n ad 1 250 (.slice a N cap)) ∧ Below w.heap.size w w' := by
  obtain ⟨n0, n1, n2, n3, n4, n5, n6, n7⟩ := n
  unfold clV
  unfold nmV
  dsimp only
  have HB := Lib.hid (((Below.refl w.heap.size w).alloc (Nat.le_refl _) (.cells #[.int .i64 n0, .int .i64 n1, .int .i64 n2, .int .i64 n3, .int .i64 n4, .int .i64 n5, .int .i64 n6, .bool n7] 33)).alloc (by simp) (.cells #[.int .i64 n0, .int .i64 n1, .int .i64 n2, .int .i64 n3, .int .i64 n4, .int .i64 n5, .int .i64 n6, .bool n7, .int .i64 ad, .int .i64 1, .int .i64 250, .slice a N cap] 60))
  go_enter Try.func131, Try.ntmps131
  go_wp2
  exact bodyPost_ret (results_cell_row (p := 6) (ty := 60) (by kernel_rfl) _ _ (w.heap.size + 1) 60 _ (0, 0) _ rfl (heap_next w _ _) Try.underlying60 rfl (by kernel_rfl)) rfl ⟨rfl, HB.out⟩
set_option maxRecDepth 100000 in
set_option maxHeartbeats 2000000 in
theorem implClaimNew_any (n : Nm) (want : Int) (w : World) :
    Calls Try.prog 85 #[nmV n, .int .i64 want] w fun e w' => e = .returned (clNewV n want) ∧ Below w.heap.size w w' := by
  have HN := fun W => Lib.hid (implNameOk_any n W)
  have HA := fun W => Lib.hid (from0_any want 251 W)
  have HF := fun W => Lib.hid (waitingFor_any n want none 0 0 W)
  obtain ⟨V, hV⟩ : ∃ V, clNewV n want = V := ⟨_, rfl⟩
  have HV := Lib.hid (show (if (okB n && inB 0 251 want) = true then clOutV n want 1 250 (.slice none 0 0) true 0 else clOutV ⟨0, 0, 0, 0, 0, 0, 0, false⟩ 0 0 0 (.slice none 0 0) false 1) = V from hV)
  rw [hV]
  clear hV
  generalize okB n = vn at *
  generalize inB 0 251 want = va at *
  obtain ⟨n0, n1, n2, n3, n4, n5, n6, n7⟩ := n
  unfold clOutV at HV
  unfold clV at HF
  unfold nmV at *
  dsimp only at *
  have HX := Lib.hid (heap_next w (.cells #[.int .i64 n0, .int .i64 n1, .int .i64 n2, .int .i64 n3, .int .i64 n4, .int .i64 n5, .int .i64 n6, .bool n7] 33) (.cells #[.int .i64 0, .int .i64 0, .int .i64 0, .int .i64 0, .int .i64 0, .int .i64 0, .int .i64 0, .bool false, .int .i64 0, .int .i64 0, .int .i64 0, .slice none 0 0, .bool false, .int .i64 0] 129))
  have HM := Lib.hid ((Below.heap_alloc (w.alloc (.cells #[.int .i64 n0, .int .i64 n1, .int .i64 n2, .int .i64 n3, .int .i64 n4, .int .i64 n5, .int .i64 n6, .bool n7] 33)) (.cells #[.int .i64 0, .int .i64 0, .int .i64 0, .int .i64 0, .int .i64 0, .int .i64 0, .int .i64 0, .bool false, .int .i64 0, .int .i64 0, .int .i64 0, .slice none 0 0, .bool false, .int .i64 0] 129) w.heap.size (by simp)).trans (heap_alloc_new w (.cells #[.int .i64 n0, .int .i64 n1, .int .i64 n2, .int .i64 n3, .int .i64 n4, .int .i64 n5, .int .i64 n6, .bool n7] 33)))
  have HB := Lib.hid (((Below.refl w.heap.size w).alloc (Nat.le_refl _) (.cells #[.int .i64 n0, .int .i64 n1, .int .i64 n2, .int .i64 n3, .int .i64 n4, .int .i64 n5, .int .i64 n6, .bool n7] 33)).alloc (by simp) (.cells #[.int .i64 0, .int .i64 0, .int .i64 0, .int .i64 0, .int .i64 0, .int .i64 0, .int .i64 0, .bool false, .int .i64 0, .int .i64 0, .int .i64 0, .slice none 0 0, .bool false, .int .i64 0] 129))
  go_enter Try.func85, Try.ntmps85
  go_wp2_with fail
  refine (HN _).out.mono ?_
  rintro e w1 ⟨rfl, h1⟩
  have HX1 := Lib.hid ((h1.block (w.heap.size + 1) (by simp)).trans HX.out)
  have HM1 := Lib.hid ((h1.block w.heap.size (by simp; omega)).trans HM.out)
  have HB1 := Lib.hid (HB.out.trans (h1.mono (by simp; omega)))
  have s1 : w.heap.size + 1 < w1.heap.size := heap_lt HX1.out
  clear h1 HX HM HB
  cases vn
  · go_wp2_with (refine wpList_put_row rfl 129 (.tmp 4) (.tmp 13) rfl rfl (w.heap.size + 1) #[.int .i64 0, .int .i64 0, .int .i64 0, .int .i64 0, .int .i64 0, .int .i64 0, .int .i64 0, .bool false, .int .i64 0, .int .i64 0, .int .i64 0, .slice none 0 0, .bool false, .int .i64 1] rfl rfl 129 _ HX1.out (by kernel_rfl) rfl rfl ?_; intro w2 hR hO; have HR := Lib.hid hR; have HO := Lib.hid hO; clear hR hO)
    exact bodyPost_ret (results_cell_row (p := 4) (ty := 129) (by kernel_rfl) _ _ (w.heap.size + 1) 129 _ (0, 0) _ rfl HR.out Try.underlying129 rfl (by kernel_rfl)) rfl ⟨by rw [← HV.out]; rfl, HO.out.below HB1.out (by omega) (by omega)⟩
  cases va
  · go_wp2_with (first
      | (go_at_call 48; refine (HA _).out.mono ?_; rintro e w' ⟨rfl, rfl⟩)
      | (refine wpList_put_row rfl 129 (.tmp 4) (.tmp 13) rfl rfl (w.heap.size + 1) #[.int .i64 0, .int .i64 0, .int .i64 0, .int .i64 0, .int .i64 0, .int .i64 0, .int .i64 0, .bool false, .int .i64 0, .int .i64 0, .int .i64 0, .slice none 0 0, .bool false, .int .i64 1] rfl rfl 129 _ HX1.out (by kernel_rfl) rfl rfl ?_; intro w2 hR hO; have HR := Lib.hid hR; have HO := Lib.hid hO; clear hR hO))
    exact bodyPost_ret (results_cell_row (p := 4) (ty := 129) (by kernel_rfl) _ _ (w.heap.size + 1) 129 _ (0, 0) _ rfl HR.out Try.underlying129 rfl (by kernel_rfl)) rfl ⟨by rw [← HV.out]; rfl, HO.out.below HB1.out (by omega) (by omega)⟩
  · go_wp2_with (first
      | (go_at_call 48; refine (HA _).out.mono ?_; rintro e w' ⟨rfl, rfl⟩)
      | (refine wpList_load_row rfl 33 (.tmp 2) rfl w.heap.size rfl 33 _ (0, 0) _ HM1.out Try.underlying33 rfl (by kernel_rfl) ?_)
      | (go_at_call 131; refine (HF _).out.mono ?_; rintro e w2 ⟨rfl, h2⟩; have HX2 := Lib.hid ((h2.block _ s1).trans HX1.out); have HB2 := Lib.hid (HB1.out.trans (h2.mono (by omega))); have s2 : w.heap.size + 1 < w2.heap.size := heap_lt HX2.out; clear h2)
      | (refine wpList_put_row rfl 129 (.tmp 4) (.tmp 17) rfl rfl (w.heap.size + 1) #[.int .i64 n0, .int .i64 n1, .int .i64 n2, .int .i64 n3, .int .i64 n4, .int .i64 n5, .int .i64 n6, .bool n7, .int .i64 want, .int .i64 1, .int .i64 250, .slice none 0 0, .bool true, .int .i64 0] rfl rfl 129 _ HX2.out (by kernel_rfl) rfl rfl ?_; intro w3 hR hO; have HR := Lib.hid hR; have HO := Lib.hid hO; clear hR hO))
    exact bodyPost_ret (results_cell_row (p := 4) (ty := 129) (by kernel_rfl) _ _ (w.heap.size + 1) 129 _ (0, 0) _ rfl HR.out Try.underlying129 rfl (by kernel_rfl)) rfl ⟨by rw [← HV.out]; rfl, HO.out.below HB2.out (by omega) (by omega)⟩
end Go.Proofs.Ytpolpkheaibonaa
/- A Node that begins: the model's NodeNew and the program's. Nothing that was there is written. -/
namespace Go.Proofs.Ytpolpkheaibonaa
open Go.RowKit
set_option linter.unusedVariables false

/-- The Claim of who begins. -/
def nwC (n : Nm) (want : Int) : Cl := ⟨n, want, 1, 250, []⟩
/-- Its Node. -/
def nwN (n : Nm) (want : Int) : Nd := ⟨nwC n want, [clCan (nwC n want)], [], [], [], 0⟩
/-- The Node beside a code. -/
def ndZ : Nd := ⟨⟨⟨0, 0, 0, 0, 0, 0, 0, false⟩, 0, 0, 0, []⟩, [], [], [], [], 0⟩
/-- What NodeNew answers. -/
def nwOut (n : Nm) (want : Int) : Nd × Int := if (okB n && inB 0 251 want) = true then (nwN n want, 0) else (ndZ, 1)
theorem nwC_right {n : Nm} {want : Int} (h : (okB n && inB 0 251 want) = true) : clB (nwC n want) = true := by
  rw [Bool.and_eq_true] at h
  have h2 := inB_of h.2
  unfold clB nwC stateB
  simp [h.1, h2.1, h2.2, riseB, inB]
theorem clCan_can {c : Cl} (h : clB c = true) : canB (clCan c).1 (clCan c).2 = true := by
  obtain ⟨_, hi⟩ := clB_id h
  have e0 : clCan c = (idN 6 60928 255 c.ad, ⟨(nmL c.n).toArray⟩) := if_pos h
  obtain ⟨-, ⟨h1, h2⟩, -, -⟩ := idB_of hi
  have e1 : idN 6 60928 255 c.ad = 418316032 + c.ad := by
    unfold idN
    rw [if_pos hi, if_neg (by decide)]
    omega
  rw [e0]
  dsimp only
  unfold canB ofB
  rw [e1]
  have hs : (⟨(nmL c.n).toArray⟩ : ByteArray).size = 8 := by
    show (nmL c.n).toArray.size = 8
    rw [List.size_toArray, nmL_len]
  rw [hs]
  simp only [Bool.and_eq_true, decide_eq_true_eq]
  omega
theorem clCan_put {c : Cl} (h : clB c = true) : putCode [] [clCan c] = 0 :=
  putCode_ok (by simp) (by decide) (by unfold allB; rw [List.all_cons, clCan_can h]; rfl) (by simp)
theorem nwN_claimed {n : Nm} {want : Int} (h : (okB n && inB 0 251 want) = true) : clmN ⟨nwC n want, [], [], [], [], 0⟩ = nwN n want := by
  unfold clmN clmQ
  dsimp only
  rw [if_pos (clCan_put (nwC_right h))]
  rfl
theorem ndZ_new {lo : Nat} {W : World} (h : lo ≤ W.heap.size) : NdNew lo W.heap.size W none none none none none ndZ :=
  Rows5.new ⟨.inl rfl, .inl rfl, .inl rfl, .inl rfl, .inl rfl⟩ h
set_option maxRecDepth 100000 in
set_option maxHeartbeats 32000000 in
theorem l10Ill_any (c : Int) (w : World) :
    Calls Try.prog 83 #[.int .i64 c] w fun e w' => e = .returned (.agg #[.int .i64 0, .int .i64 0, .int .i64 0, .int .i64 0, .int .i64 0, .int .i64 0, .int .i64 0, .bool false, .int .i64 0, .int .i64 0, .int .i64 0, .slice none 0 0, .slice none 0 0, .slice none 0 0, .slice none 0 0, .slice none 0 0, .int .i64 0, .int .i64 c]) ∧ Below w.heap.size w w' := by
  go_enter Try.func83, Try.ntmps83
  go_wp2_with (first
    | (refine wpList_alloc_h rfl 71 rfl (.agg #[.int .i64 0, .int .i64 0, .int .i64 0, .int .i64 0, .int .i64 0, .int .i64 0, .int .i64 0, .bool false, .int .i64 0, .int .i64 0, .int .i64 0, .slice none 0 0, .slice none 0 0, .slice none 0 0, .slice none 0 0, .slice none 0 0, .int .i64 0, .int .i64 0]) (by kernel_rfl) #[.int .i64 0, .int .i64 0, .int .i64 0, .int .i64 0, .int .i64 0, .int .i64 0, .int .i64 0, .bool false, .int .i64 0, .int .i64 0, .int .i64 0, .slice none 0 0, .slice none 0 0, .slice none 0 0, .slice none 0 0, .slice none 0 0, .int .i64 0, .int .i64 0] rfl ?_; intro w1 R1 e1 g1 b1; have HL1 := Lib.hid (show Lg w w1 [(R1, #[.int .i64 0, .int .i64 0, .int .i64 0, .int .i64 0, .int .i64 0, .int .i64 0, .int .i64 0, .bool false, .int .i64 0, .int .i64 0, .int .i64 0, .slice none 0 0, .slice none 0 0, .slice none 0 0, .slice none 0 0, .slice none 0 0, .int .i64 0, .int .i64 0], 71)] [] from (Lg.first w).box e1 g1 b1); clear g1 b1 e1)
    | (refine wpList_put_at rfl 71 (.tmp 2) (.tmp 4) rfl rfl (R1) 0 rfl (.agg #[.int .i64 0, .int .i64 0, .int .i64 0, .int .i64 0, .int .i64 0, .int .i64 0, .int .i64 0, .bool false, .int .i64 0, .int .i64 0, .int .i64 0, .slice none 0 0, .slice none 0 0, .slice none 0 0, .slice none 0 0, .slice none 0 0, .int .i64 0, .int .i64 c]) rfl #[.int .i64 0, .int .i64 0, .int .i64 0, .int .i64 0, .int .i64 0, .int .i64 0, .int .i64 0, .bool false, .int .i64 0, .int .i64 0, .int .i64 0, .slice none 0 0, .slice none 0 0, .slice none 0 0, .slice none 0 0, .slice none 0 0, .int .i64 0, .int .i64 c] rfl 71 #[.int .i64 0, .int .i64 0, .int .i64 0, .int .i64 0, .int .i64 0, .int .i64 0, .int .i64 0, .bool false, .int .i64 0, .int .i64 0, .int .i64 0, .slice none 0 0, .slice none 0 0, .slice none 0 0, .slice none 0 0, .slice none 0 0, .int .i64 0, .int .i64 0] #[.int .i64 0, .int .i64 0, .int .i64 0, .int .i64 0, .int .i64 0, .int .i64 0, .int .i64 0, .bool false, .int .i64 0, .int .i64 0, .int .i64 0, .slice none 0 0, .slice none 0 0, .slice none 0 0, .slice none 0 0, .slice none 0 0, .int .i64 0, .int .i64 c] (HL1.out.get (.head _)) (by kernel_rfl) (by kernel_rfl) (by kernel_rfl) (by kernel_rfl) ?_; intro w2 g2 o2; have HL2 := Lib.hid (show Lg w w2 [(R1, #[.int .i64 0, .int .i64 0, .int .i64 0, .int .i64 0, .int .i64 0, .int .i64 0, .int .i64 0, .bool false, .int .i64 0, .int .i64 0, .int .i64 0, .slice none 0 0, .slice none 0 0, .slice none 0 0, .slice none 0 0, .slice none 0 0, .int .i64 0, .int .i64 c], 71)] [] from HL1.out.put 0 rfl g2 o2 (fun _ h => nomatch h) (fun _ h => nomatch h) rfl); clear g2 o2))
  exact bodyPost_ret (results_cell_row (p := 2) (ty := 71) (by kernel_rfl) _ _ (R1) 71 _ (0, 0) _ rfl (HL2.out.get (.head _)) Try.underlying71 rfl (by kernel_rfl)) rfl ⟨rfl, HL2.out.below⟩
set_option maxRecDepth 100000 in
set_option maxHeartbeats 32000000 in
theorem implNodeNew_any (n : Nm) (want : Int) (w : World) :
    Calls Try.prog 33 #[nmV n, .int .i64 want] w (NdOutNew (nwOut n want).1 (nwOut n want).2 w) := by
  have HC := fun W => Lib.hid (implClaimNew_any n want W)
  unfold clNewV at HC
  rcases hv : (okB n && inB 0 251 want) with _ | _
  · have ho : nwOut n want = (ndZ, 1) := by unfold nwOut; rw [hv]; rfl
    rw [ho]
    rw [hv] at HC
    rw [if_neg (by decide)] at HC
    unfold clOutV at HC
    unfold nmV NdOutNew ndOutV
    clear ho hv
    dsimp only at *
    go_enter Try.func33, Try.ntmps33
    go_wp2_with (first
      | (refine wpList_box_h rfl 33 (.tmp 0) rfl #[.int .i64 n.u, .int .i64 n.m, .int .i64 n.i, .int .i64 n.f, .int .i64 n.c, .int .i64 n.s, .int .i64 n.y, .bool n.a] rfl ?_; intro w1 R1 e1 g1 b1; have HL1 := Lib.hid (show Lg w w1 [(R1, #[.int .i64 n.u, .int .i64 n.m, .int .i64 n.i, .int .i64 n.f, .int .i64 n.c, .int .i64 n.s, .int .i64 n.y, .bool n.a], 33)] [] from (Lg.first w).box e1 g1 b1); clear g1 b1 e1)
      | (refine wpList_alloc_h rfl 71 rfl (.agg #[.int .i64 0, .int .i64 0, .int .i64 0, .int .i64 0, .int .i64 0, .int .i64 0, .int .i64 0, .bool false, .int .i64 0, .int .i64 0, .int .i64 0, .slice none 0 0, .slice none 0 0, .slice none 0 0, .slice none 0 0, .slice none 0 0, .int .i64 0, .int .i64 0]) (by kernel_rfl) #[.int .i64 0, .int .i64 0, .int .i64 0, .int .i64 0, .int .i64 0, .int .i64 0, .int .i64 0, .bool false, .int .i64 0, .int .i64 0, .int .i64 0, .slice none 0 0, .slice none 0 0, .slice none 0 0, .slice none 0 0, .slice none 0 0, .int .i64 0, .int .i64 0] rfl ?_; intro w2 R2 e2 g2 b2; have qR2_R1 : R1 < R2 := Nat.lt_of_lt_of_eq (HL1.out.lt (.head _)) e2; have HL2 := Lib.hid (show Lg w w2 [(R2, #[.int .i64 0, .int .i64 0, .int .i64 0, .int .i64 0, .int .i64 0, .int .i64 0, .int .i64 0, .bool false, .int .i64 0, .int .i64 0, .int .i64 0, .slice none 0 0, .slice none 0 0, .slice none 0 0, .slice none 0 0, .slice none 0 0, .int .i64 0, .int .i64 0], 71), (R1, #[.int .i64 n.u, .int .i64 n.m, .int .i64 n.i, .int .i64 n.f, .int .i64 n.c, .int .i64 n.s, .int .i64 n.y, .bool n.a], 33)] [] from HL1.out.box e2 g2 b2); clear g2 b2 e2)
      | (refine wpList_load_at rfl 33 (.tmp 2) rfl (R1) 0 rfl 33 #[.int .i64 n.u, .int .i64 n.m, .int .i64 n.i, .int .i64 n.f, .int .i64 n.c, .int .i64 n.s, .int .i64 n.y, .bool n.a] (0, 0) (HL2.out.get (.tail _ (.head _))) [.int .i64 n.u, .int .i64 n.m, .int .i64 n.i, .int .i64 n.f, .int .i64 n.c, .int .i64 n.s, .int .i64 n.y, .bool n.a] rfl _ Try.underlying33 rfl (by kernel_rfl) ?_))
    refine ((HC _).out).mono ?_
    rintro e w3 ⟨rfl, h⟩
    have HL3 := Lib.hid (show Lg w w3 [(R2, #[.int .i64 0, .int .i64 0, .int .i64 0, .int .i64 0, .int .i64 0, .int .i64 0, .int .i64 0, .bool false, .int .i64 0, .int .i64 0, .int .i64 0, .slice none 0 0, .slice none 0 0, .slice none 0 0, .slice none 0 0, .slice none 0 0, .int .i64 0, .int .i64 0], 71), (R1, #[.int .i64 n.u, .int .i64 n.m, .int .i64 n.i, .int .i64 n.f, .int .i64 n.c, .int .i64 n.s, .int .i64 n.y, .bool n.a], 33)] [] from HL2.out.kept h)
    clear h
    go_wp2_with (first
      | (refine wpList_alloc_h rfl 129 rfl (.agg #[.int .i64 0, .int .i64 0, .int .i64 0, .int .i64 0, .int .i64 0, .int .i64 0, .int .i64 0, .bool false, .int .i64 0, .int .i64 0, .int .i64 0, .slice none 0 0, .bool false, .int .i64 0]) (by kernel_rfl) #[.int .i64 0, .int .i64 0, .int .i64 0, .int .i64 0, .int .i64 0, .int .i64 0, .int .i64 0, .bool false, .int .i64 0, .int .i64 0, .int .i64 0, .slice none 0 0, .bool false, .int .i64 0] rfl ?_; intro w4 R4 e4 g4 b4; have qR4_R2 : R2 < R4 := Nat.lt_of_lt_of_eq (HL3.out.lt (.head _)) e4; have qR4_R1 : R1 < R4 := Nat.lt_of_lt_of_eq (HL3.out.lt (.tail _ (.head _))) e4; have HL4 := Lib.hid (show Lg w w4 [(R4, #[.int .i64 0, .int .i64 0, .int .i64 0, .int .i64 0, .int .i64 0, .int .i64 0, .int .i64 0, .bool false, .int .i64 0, .int .i64 0, .int .i64 0, .slice none 0 0, .bool false, .int .i64 0], 129), (R2, #[.int .i64 0, .int .i64 0, .int .i64 0, .int .i64 0, .int .i64 0, .int .i64 0, .int .i64 0, .bool false, .int .i64 0, .int .i64 0, .int .i64 0, .slice none 0 0, .slice none 0 0, .slice none 0 0, .slice none 0 0, .slice none 0 0, .int .i64 0, .int .i64 0], 71), (R1, #[.int .i64 n.u, .int .i64 n.m, .int .i64 n.i, .int .i64 n.f, .int .i64 n.c, .int .i64 n.s, .int .i64 n.y, .bool n.a], 33)] [] from HL3.out.box e4 g4 b4); clear g4 b4 e4)
      | (refine wpList_put_at rfl 129 (.tmp 5) (.tmp 9) rfl rfl (R4) 0 rfl (.agg #[.int .i64 0, .int .i64 0, .int .i64 0, .int .i64 0, .int .i64 0, .int .i64 0, .int .i64 0, .bool false, .int .i64 0, .int .i64 0, .int .i64 0, .slice none 0 0, .bool false, .int .i64 1]) rfl #[.int .i64 0, .int .i64 0, .int .i64 0, .int .i64 0, .int .i64 0, .int .i64 0, .int .i64 0, .bool false, .int .i64 0, .int .i64 0, .int .i64 0, .slice none 0 0, .bool false, .int .i64 1] rfl 129 #[.int .i64 0, .int .i64 0, .int .i64 0, .int .i64 0, .int .i64 0, .int .i64 0, .int .i64 0, .bool false, .int .i64 0, .int .i64 0, .int .i64 0, .slice none 0 0, .bool false, .int .i64 0] #[.int .i64 0, .int .i64 0, .int .i64 0, .int .i64 0, .int .i64 0, .int .i64 0, .int .i64 0, .bool false, .int .i64 0, .int .i64 0, .int .i64 0, .slice none 0 0, .bool false, .int .i64 1] (HL4.out.get (.head _)) (by kernel_rfl) (by kernel_rfl) (by kernel_rfl) (by kernel_rfl) ?_; intro w5 g5 o5; have HL5 := Lib.hid (show Lg w w5 [(R4, #[.int .i64 0, .int .i64 0, .int .i64 0, .int .i64 0, .int .i64 0, .int .i64 0, .int .i64 0, .bool false, .int .i64 0, .int .i64 0, .int .i64 0, .slice none 0 0, .bool false, .int .i64 1], 129), (R2, #[.int .i64 0, .int .i64 0, .int .i64 0, .int .i64 0, .int .i64 0, .int .i64 0, .int .i64 0, .bool false, .int .i64 0, .int .i64 0, .int .i64 0, .slice none 0 0, .slice none 0 0, .slice none 0 0, .slice none 0 0, .slice none 0 0, .int .i64 0, .int .i64 0], 71), (R1, #[.int .i64 n.u, .int .i64 n.m, .int .i64 n.i, .int .i64 n.f, .int .i64 n.c, .int .i64 n.s, .int .i64 n.y, .bool n.a], 33)] [] from HL4.out.put 0 rfl g5 o5 (List.forall_mem_cons.2 ⟨Nat.ne_of_lt qR4_R2, (List.forall_mem_cons.2 ⟨Nat.ne_of_lt qR4_R1, (fun _ h => nomatch h)⟩)⟩) (fun _ h => nomatch h) rfl); clear g5 o5)
      | (refine wpList_load_one rfl 2 (.tmp 10) rfl (R4) 13 rfl 129 #[.int .i64 0, .int .i64 0, .int .i64 0, .int .i64 0, .int .i64 0, .int .i64 0, .int .i64 0, .bool false, .int .i64 0, .int .i64 0, .int .i64 0, .slice none 0 0, .bool false, .int .i64 1] (0, 0) (HL5.out.get (.head _)) (.int .i64 1) rfl _ Try.underlying2 rfl (by kernel_rfl) ?_)
      | (refine wpList_load_one rfl 2 (.tmp 13) rfl (R4) 13 rfl 129 #[.int .i64 0, .int .i64 0, .int .i64 0, .int .i64 0, .int .i64 0, .int .i64 0, .int .i64 0, .bool false, .int .i64 0, .int .i64 0, .int .i64 0, .slice none 0 0, .bool false, .int .i64 1] (0, 0) (HL5.out.get (.head _)) (.int .i64 1) rfl _ Try.underlying2 rfl (by kernel_rfl) ?_)
      | (refine wpList_put_at rfl 71 (.tmp 4) (.tmp 15) rfl rfl (R2) 0 rfl (.agg #[.int .i64 0, .int .i64 0, .int .i64 0, .int .i64 0, .int .i64 0, .int .i64 0, .int .i64 0, .bool false, .int .i64 0, .int .i64 0, .int .i64 0, .slice none 0 0, .slice none 0 0, .slice none 0 0, .slice none 0 0, .slice none 0 0, .int .i64 0, .int .i64 1]) rfl #[.int .i64 0, .int .i64 0, .int .i64 0, .int .i64 0, .int .i64 0, .int .i64 0, .int .i64 0, .bool false, .int .i64 0, .int .i64 0, .int .i64 0, .slice none 0 0, .slice none 0 0, .slice none 0 0, .slice none 0 0, .slice none 0 0, .int .i64 0, .int .i64 1] rfl 71 #[.int .i64 0, .int .i64 0, .int .i64 0, .int .i64 0, .int .i64 0, .int .i64 0, .int .i64 0, .bool false, .int .i64 0, .int .i64 0, .int .i64 0, .slice none 0 0, .slice none 0 0, .slice none 0 0, .slice none 0 0, .slice none 0 0, .int .i64 0, .int .i64 0] #[.int .i64 0, .int .i64 0, .int .i64 0, .int .i64 0, .int .i64 0, .int .i64 0, .int .i64 0, .bool false, .int .i64 0, .int .i64 0, .int .i64 0, .slice none 0 0, .slice none 0 0, .slice none 0 0, .slice none 0 0, .slice none 0 0, .int .i64 0, .int .i64 1] (HL5.out.get (.tail _ (.head _))) (by kernel_rfl) (by kernel_rfl) (by kernel_rfl) (by kernel_rfl) ?_; intro w6 g6 o6; have HL6 := Lib.hid (show Lg w w6 [(R4, #[.int .i64 0, .int .i64 0, .int .i64 0, .int .i64 0, .int .i64 0, .int .i64 0, .int .i64 0, .bool false, .int .i64 0, .int .i64 0, .int .i64 0, .slice none 0 0, .bool false, .int .i64 1], 129), (R2, #[.int .i64 0, .int .i64 0, .int .i64 0, .int .i64 0, .int .i64 0, .int .i64 0, .int .i64 0, .bool false, .int .i64 0, .int .i64 0, .int .i64 0, .slice none 0 0, .slice none 0 0, .slice none 0 0, .slice none 0 0, .slice none 0 0, .int .i64 0, .int .i64 1], 71), (R1, #[.int .i64 n.u, .int .i64 n.m, .int .i64 n.i, .int .i64 n.f, .int .i64 n.c, .int .i64 n.s, .int .i64 n.y, .bool n.a], 33)] [] from HL5.out.put 1 rfl g6 o6 (List.forall_mem_cons.2 ⟨Nat.ne_of_gt qR4_R2, (List.forall_mem_cons.2 ⟨Nat.ne_of_lt qR2_R1, (fun _ h => nomatch h)⟩)⟩) (fun _ h => nomatch h) rfl); clear g6 o6))
    exact bodyPost_ret (results_cell_row (p := 4) (ty := 71) (by kernel_rfl) _ _ (R2) 71 _ (0, 0) _ rfl (HL6.out.get (.tail _ (.head _))) Try.underlying71 rfl (by kernel_rfl)) rfl ⟨none, none, none, none, none, 0, 0, 0, 0, 0, rfl, ndZ_new HL6.out.below.size, HL6.out.below⟩
  · have ho : nwOut n want = (nwN n want, 0) := by unfold nwOut; rw [hv]; rfl
    rw [ho]
    rw [hv] at HC
    rw [if_pos rfl] at HC
    unfold clOutV at HC
    have hsz : NdSmall (nwN n want) := ⟨Nat.zero_le _, by show 1 ≤ 1048576; omega, ⟨Nat.zero_le _, fun i hi => absurd hi (Nat.not_lt_zero i)⟩, Nat.zero_le _, ⟨Nat.zero_le _, fun i hi => absurd hi (Nat.not_lt_zero i)⟩⟩
    have hcq : CansSmall (nwN n want).q := CansSmall.of_all (by show allB [clCan (nwC n want)] = true; unfold allB; rw [List.all_cons, clCan_can (nwC_right hv)]; rfl)
    have HM := fun W => Lib.hid (claimed_any ⟨nwC n want, [], [], [], [], 0⟩ none none none none none 0 0 0 0 0 W (.inl rfl) (.inl rfl) (fun _ h => nomatch h) (Nat.zero_le _) (Nat.zero_le _))
    have HA := fun y d W h => Lib.hid (answered_any (nwN n want) none y none none none 0 d 0 0 0 W ⟨.inl rfl, h, .inl rfl, .inl rfl, .inl rfl⟩ hsz hcq (fun i hi => absurd hi (Nat.not_lt_zero i)) (fun i hi => absurd hi (Nat.not_lt_zero i)))
    rw [nwN_claimed hv] at HM
    have hq : clmQ ⟨nwC n want, [], [], [], [], 0⟩ = (nwN n want).q := congrArg Nd.q (nwN_claimed hv)
    rw [hq] at HM
    clear ho hv hsz hcq hq
    unfold ndV at HM HA
    unfold nwC at HM
    dsimp only at *
    obtain ⟨X, hX⟩ : ∃ x, nwN n want = x := ⟨_, rfl⟩
    rw [hX] at HM HA ⊢
    clear hX
    unfold NdOutNew ndOutV at HA ⊢
    unfold nmV
    go_enter Try.func33, Try.ntmps33
    go_wp2_with (first
      | (refine wpList_box_h rfl 33 (.tmp 0) rfl #[.int .i64 n.u, .int .i64 n.m, .int .i64 n.i, .int .i64 n.f, .int .i64 n.c, .int .i64 n.s, .int .i64 n.y, .bool n.a] rfl ?_; intro w1 R1 e1 g1 b1; have HL1 := Lib.hid (show Lg w w1 [(R1, #[.int .i64 n.u, .int .i64 n.m, .int .i64 n.i, .int .i64 n.f, .int .i64 n.c, .int .i64 n.s, .int .i64 n.y, .bool n.a], 33)] [] from (Lg.first w).box e1 g1 b1); clear g1 b1 e1)
      | (refine wpList_alloc_h rfl 71 rfl (.agg #[.int .i64 0, .int .i64 0, .int .i64 0, .int .i64 0, .int .i64 0, .int .i64 0, .int .i64 0, .bool false, .int .i64 0, .int .i64 0, .int .i64 0, .slice none 0 0, .slice none 0 0, .slice none 0 0, .slice none 0 0, .slice none 0 0, .int .i64 0, .int .i64 0]) (by kernel_rfl) #[.int .i64 0, .int .i64 0, .int .i64 0, .int .i64 0, .int .i64 0, .int .i64 0, .int .i64 0, .bool false, .int .i64 0, .int .i64 0, .int .i64 0, .slice none 0 0, .slice none 0 0, .slice none 0 0, .slice none 0 0, .slice none 0 0, .int .i64 0, .int .i64 0] rfl ?_; intro w2 R2 e2 g2 b2; have qR2_R1 : R1 < R2 := Nat.lt_of_lt_of_eq (HL1.out.lt (.head _)) e2; have HL2 := Lib.hid (show Lg w w2 [(R2, #[.int .i64 0, .int .i64 0, .int .i64 0, .int .i64 0, .int .i64 0, .int .i64 0, .int .i64 0, .bool false, .int .i64 0, .int .i64 0, .int .i64 0, .slice none 0 0, .slice none 0 0, .slice none 0 0, .slice none 0 0, .slice none 0 0, .int .i64 0, .int .i64 0], 71), (R1, #[.int .i64 n.u, .int .i64 n.m, .int .i64 n.i, .int .i64 n.f, .int .i64 n.c, .int .i64 n.s, .int .i64 n.y, .bool n.a], 33)] [] from HL1.out.box e2 g2 b2); clear g2 b2 e2)
      | (refine wpList_load_at rfl 33 (.tmp 2) rfl (R1) 0 rfl 33 #[.int .i64 n.u, .int .i64 n.m, .int .i64 n.i, .int .i64 n.f, .int .i64 n.c, .int .i64 n.s, .int .i64 n.y, .bool n.a] (0, 0) (HL2.out.get (.tail _ (.head _))) [.int .i64 n.u, .int .i64 n.m, .int .i64 n.i, .int .i64 n.f, .int .i64 n.c, .int .i64 n.s, .int .i64 n.y, .bool n.a] rfl _ Try.underlying33 rfl (by kernel_rfl) ?_))
    refine ((HC _).out).mono ?_
    rintro e w3 ⟨rfl, h⟩
    have HL3 := Lib.hid (show Lg w w3 [(R2, #[.int .i64 0, .int .i64 0, .int .i64 0, .int .i64 0, .int .i64 0, .int .i64 0, .int .i64 0, .bool false, .int .i64 0, .int .i64 0, .int .i64 0, .slice none 0 0, .slice none 0 0, .slice none 0 0, .slice none 0 0, .slice none 0 0, .int .i64 0, .int .i64 0], 71), (R1, #[.int .i64 n.u, .int .i64 n.m, .int .i64 n.i, .int .i64 n.f, .int .i64 n.c, .int .i64 n.s, .int .i64 n.y, .bool n.a], 33)] [] from HL2.out.kept h)
    clear h
    go_wp2_with (first
      | (refine wpList_alloc_h rfl 129 rfl (.agg #[.int .i64 0, .int .i64 0, .int .i64 0, .int .i64 0, .int .i64 0, .int .i64 0, .int .i64 0, .bool false, .int .i64 0, .int .i64 0, .int .i64 0, .slice none 0 0, .bool false, .int .i64 0]) (by kernel_rfl) #[.int .i64 0, .int .i64 0, .int .i64 0, .int .i64 0, .int .i64 0, .int .i64 0, .int .i64 0, .bool false, .int .i64 0, .int .i64 0, .int .i64 0, .slice none 0 0, .bool false, .int .i64 0] rfl ?_; intro w4 R4 e4 g4 b4; have qR4_R2 : R2 < R4 := Nat.lt_of_lt_of_eq (HL3.out.lt (.head _)) e4; have qR4_R1 : R1 < R4 := Nat.lt_of_lt_of_eq (HL3.out.lt (.tail _ (.head _))) e4; have HL4 := Lib.hid (show Lg w w4 [(R4, #[.int .i64 0, .int .i64 0, .int .i64 0, .int .i64 0, .int .i64 0, .int .i64 0, .int .i64 0, .bool false, .int .i64 0, .int .i64 0, .int .i64 0, .slice none 0 0, .bool false, .int .i64 0], 129), (R2, #[.int .i64 0, .int .i64 0, .int .i64 0, .int .i64 0, .int .i64 0, .int .i64 0, .int .i64 0, .bool false, .int .i64 0, .int .i64 0, .int .i64 0, .slice none 0 0, .slice none 0 0, .slice none 0 0, .slice none 0 0, .slice none 0 0, .int .i64 0, .int .i64 0], 71), (R1, #[.int .i64 n.u, .int .i64 n.m, .int .i64 n.i, .int .i64 n.f, .int .i64 n.c, .int .i64 n.s, .int .i64 n.y, .bool n.a], 33)] [] from HL3.out.box e4 g4 b4); clear g4 b4 e4)
      | (refine wpList_put_at rfl 129 (.tmp 5) (.tmp 9) rfl rfl (R4) 0 rfl (.agg #[.int .i64 n.u, .int .i64 n.m, .int .i64 n.i, .int .i64 n.f, .int .i64 n.c, .int .i64 n.s, .int .i64 n.y, .bool n.a, .int .i64 want, .int .i64 1, .int .i64 250, .slice none 0 0, .bool true, .int .i64 0]) rfl #[.int .i64 n.u, .int .i64 n.m, .int .i64 n.i, .int .i64 n.f, .int .i64 n.c, .int .i64 n.s, .int .i64 n.y, .bool n.a, .int .i64 want, .int .i64 1, .int .i64 250, .slice none 0 0, .bool true, .int .i64 0] rfl 129 #[.int .i64 0, .int .i64 0, .int .i64 0, .int .i64 0, .int .i64 0, .int .i64 0, .int .i64 0, .bool false, .int .i64 0, .int .i64 0, .int .i64 0, .slice none 0 0, .bool false, .int .i64 0] #[.int .i64 n.u, .int .i64 n.m, .int .i64 n.i, .int .i64 n.f, .int .i64 n.c, .int .i64 n.s, .int .i64 n.y, .bool n.a, .int .i64 want, .int .i64 1, .int .i64 250, .slice none 0 0, .bool true, .int .i64 0] (HL4.out.get (.head _)) (by kernel_rfl) (by kernel_rfl) (by kernel_rfl) (by kernel_rfl) ?_; intro w5 g5 o5; have HL5 := Lib.hid (show Lg w w5 [(R4, #[.int .i64 n.u, .int .i64 n.m, .int .i64 n.i, .int .i64 n.f, .int .i64 n.c, .int .i64 n.s, .int .i64 n.y, .bool n.a, .int .i64 want, .int .i64 1, .int .i64 250, .slice none 0 0, .bool true, .int .i64 0], 129), (R2, #[.int .i64 0, .int .i64 0, .int .i64 0, .int .i64 0, .int .i64 0, .int .i64 0, .int .i64 0, .bool false, .int .i64 0, .int .i64 0, .int .i64 0, .slice none 0 0, .slice none 0 0, .slice none 0 0, .slice none 0 0, .slice none 0 0, .int .i64 0, .int .i64 0], 71), (R1, #[.int .i64 n.u, .int .i64 n.m, .int .i64 n.i, .int .i64 n.f, .int .i64 n.c, .int .i64 n.s, .int .i64 n.y, .bool n.a], 33)] [] from HL4.out.put 0 rfl g5 o5 (List.forall_mem_cons.2 ⟨Nat.ne_of_lt qR4_R2, (List.forall_mem_cons.2 ⟨Nat.ne_of_lt qR4_R1, (fun _ h => nomatch h)⟩)⟩) (fun _ h => nomatch h) rfl); clear g5 o5)
      | (refine wpList_load_one rfl 2 (.tmp 10) rfl (R4) 13 rfl 129 #[.int .i64 n.u, .int .i64 n.m, .int .i64 n.i, .int .i64 n.f, .int .i64 n.c, .int .i64 n.s, .int .i64 n.y, .bool n.a, .int .i64 want, .int .i64 1, .int .i64 250, .slice none 0 0, .bool true, .int .i64 0] (0, 0) (HL5.out.get (.head _)) (.int .i64 0) rfl _ Try.underlying2 rfl (by kernel_rfl) ?_)
      | (refine wpList_load_at rfl 60 (.tmp 16) rfl (R4) 0 rfl 129 #[.int .i64 n.u, .int .i64 n.m, .int .i64 n.i, .int .i64 n.f, .int .i64 n.c, .int .i64 n.s, .int .i64 n.y, .bool n.a, .int .i64 want, .int .i64 1, .int .i64 250, .slice none 0 0, .bool true, .int .i64 0] (0, 0) (HL5.out.get (.head _)) [.int .i64 n.u, .int .i64 n.m, .int .i64 n.i, .int .i64 n.f, .int .i64 n.c, .int .i64 n.s, .int .i64 n.y, .bool n.a, .int .i64 want, .int .i64 1, .int .i64 250, .slice none 0 0] rfl _ Try.underlying60 rfl (by kernel_rfl) ?_)
      | (refine wpList_alloc_h rfl 136 rfl (.agg #[.int .i64 0, .int .i64 0, .int .i64 0, .int .i64 0, .int .i64 0, .int .i64 0, .int .i64 0, .bool false, .int .i64 0, .int .i64 0, .int .i64 0, .slice none 0 0, .slice none 0 0, .slice none 0 0, .slice none 0 0, .slice none 0 0, .int .i64 0]) (by kernel_rfl) #[.int .i64 0, .int .i64 0, .int .i64 0, .int .i64 0, .int .i64 0, .int .i64 0, .int .i64 0, .bool false, .int .i64 0, .int .i64 0, .int .i64 0, .slice none 0 0, .slice none 0 0, .slice none 0 0, .slice none 0 0, .slice none 0 0, .int .i64 0] rfl ?_; intro w6 R6 e6 g6 b6; have qR6_R4 : R4 < R6 := Nat.lt_of_lt_of_eq (HL5.out.lt (.head _)) e6; have qR6_R2 : R2 < R6 := Nat.lt_of_lt_of_eq (HL5.out.lt (.tail _ (.head _))) e6; have qR6_R1 : R1 < R6 := Nat.lt_of_lt_of_eq (HL5.out.lt (.tail _ (.tail _ (.head _)))) e6; have HL6 := Lib.hid (show Lg w w6 [(R6, #[.int .i64 0, .int .i64 0, .int .i64 0, .int .i64 0, .int .i64 0, .int .i64 0, .int .i64 0, .bool false, .int .i64 0, .int .i64 0, .int .i64 0, .slice none 0 0, .slice none 0 0, .slice none 0 0, .slice none 0 0, .slice none 0 0, .int .i64 0], 136), (R4, #[.int .i64 n.u, .int .i64 n.m, .int .i64 n.i, .int .i64 n.f, .int .i64 n.c, .int .i64 n.s, .int .i64 n.y, .bool n.a, .int .i64 want, .int .i64 1, .int .i64 250, .slice none 0 0, .bool true, .int .i64 0], 129), (R2, #[.int .i64 0, .int .i64 0, .int .i64 0, .int .i64 0, .int .i64 0, .int .i64 0, .int .i64 0, .bool false, .int .i64 0, .int .i64 0, .int .i64 0, .slice none 0 0, .slice none 0 0, .slice none 0 0, .slice none 0 0, .slice none 0 0, .int .i64 0, .int .i64 0], 71), (R1, #[.int .i64 n.u, .int .i64 n.m, .int .i64 n.i, .int .i64 n.f, .int .i64 n.c, .int .i64 n.s, .int .i64 n.y, .bool n.a], 33)] [] from HL5.out.box e6 g6 b6); clear g6 b6 e6)
      | (refine wpList_put_at rfl 136 (.tmp 6) (.tmp 18) rfl rfl (R6) 0 rfl (.agg #[.int .i64 n.u, .int .i64 n.m, .int .i64 n.i, .int .i64 n.f, .int .i64 n.c, .int .i64 n.s, .int .i64 n.y, .bool n.a, .int .i64 want, .int .i64 1, .int .i64 250, .slice none 0 0, .slice none 0 0, .slice none 0 0, .slice none 0 0, .slice none 0 0, .int .i64 0]) rfl #[.int .i64 n.u, .int .i64 n.m, .int .i64 n.i, .int .i64 n.f, .int .i64 n.c, .int .i64 n.s, .int .i64 n.y, .bool n.a, .int .i64 want, .int .i64 1, .int .i64 250, .slice none 0 0, .slice none 0 0, .slice none 0 0, .slice none 0 0, .slice none 0 0, .int .i64 0] rfl 136 #[.int .i64 0, .int .i64 0, .int .i64 0, .int .i64 0, .int .i64 0, .int .i64 0, .int .i64 0, .bool false, .int .i64 0, .int .i64 0, .int .i64 0, .slice none 0 0, .slice none 0 0, .slice none 0 0, .slice none 0 0, .slice none 0 0, .int .i64 0] #[.int .i64 n.u, .int .i64 n.m, .int .i64 n.i, .int .i64 n.f, .int .i64 n.c, .int .i64 n.s, .int .i64 n.y, .bool n.a, .int .i64 want, .int .i64 1, .int .i64 250, .slice none 0 0, .slice none 0 0, .slice none 0 0, .slice none 0 0, .slice none 0 0, .int .i64 0] (HL6.out.get (.head _)) (by kernel_rfl) (by kernel_rfl) (by kernel_rfl) (by kernel_rfl) ?_; intro w7 g7 o7; have HL7 := Lib.hid (show Lg w w7 [(R6, #[.int .i64 n.u, .int .i64 n.m, .int .i64 n.i, .int .i64 n.f, .int .i64 n.c, .int .i64 n.s, .int .i64 n.y, .bool n.a, .int .i64 want, .int .i64 1, .int .i64 250, .slice none 0 0, .slice none 0 0, .slice none 0 0, .slice none 0 0, .slice none 0 0, .int .i64 0], 136), (R4, #[.int .i64 n.u, .int .i64 n.m, .int .i64 n.i, .int .i64 n.f, .int .i64 n.c, .int .i64 n.s, .int .i64 n.y, .bool n.a, .int .i64 want, .int .i64 1, .int .i64 250, .slice none 0 0, .bool true, .int .i64 0], 129), (R2, #[.int .i64 0, .int .i64 0, .int .i64 0, .int .i64 0, .int .i64 0, .int .i64 0, .int .i64 0, .bool false, .int .i64 0, .int .i64 0, .int .i64 0, .slice none 0 0, .slice none 0 0, .slice none 0 0, .slice none 0 0, .slice none 0 0, .int .i64 0, .int .i64 0], 71), (R1, #[.int .i64 n.u, .int .i64 n.m, .int .i64 n.i, .int .i64 n.f, .int .i64 n.c, .int .i64 n.s, .int .i64 n.y, .bool n.a], 33)] [] from HL6.out.put 0 rfl g7 o7 (List.forall_mem_cons.2 ⟨Nat.ne_of_lt qR6_R4, (List.forall_mem_cons.2 ⟨Nat.ne_of_lt qR6_R2, (List.forall_mem_cons.2 ⟨Nat.ne_of_lt qR6_R1, (fun _ h => nomatch h)⟩)⟩)⟩) (fun _ h => nomatch h) rfl); clear g7 o7)
      | (refine wpList_load_at rfl 136 (.tmp 6) rfl (R6) 0 rfl 136 #[.int .i64 n.u, .int .i64 n.m, .int .i64 n.i, .int .i64 n.f, .int .i64 n.c, .int .i64 n.s, .int .i64 n.y, .bool n.a, .int .i64 want, .int .i64 1, .int .i64 250, .slice none 0 0, .slice none 0 0, .slice none 0 0, .slice none 0 0, .slice none 0 0, .int .i64 0] (0, 0) (HL7.out.get (.head _)) [.int .i64 n.u, .int .i64 n.m, .int .i64 n.i, .int .i64 n.f, .int .i64 n.c, .int .i64 n.s, .int .i64 n.y, .bool n.a, .int .i64 want, .int .i64 1, .int .i64 250, .slice none 0 0, .slice none 0 0, .slice none 0 0, .slice none 0 0, .slice none 0 0, .int .i64 0] rfl _ Try.underlying136 rfl (by kernel_rfl) ?_))
    refine ((HM _).out).mono ?_
    rintro e w8 ⟨y, d, rfl, hy, h⟩
    have HL8 := Lib.hid (show Lg w w8 [(R6, #[.int .i64 n.u, .int .i64 n.m, .int .i64 n.i, .int .i64 n.f, .int .i64 n.c, .int .i64 n.s, .int .i64 n.y, .bool n.a, .int .i64 want, .int .i64 1, .int .i64 250, .slice none 0 0, .slice none 0 0, .slice none 0 0, .slice none 0 0, .slice none 0 0, .int .i64 0], 136), (R4, #[.int .i64 n.u, .int .i64 n.m, .int .i64 n.i, .int .i64 n.f, .int .i64 n.c, .int .i64 n.s, .int .i64 n.y, .bool n.a, .int .i64 want, .int .i64 1, .int .i64 250, .slice none 0 0, .bool true, .int .i64 0], 129), (R2, #[.int .i64 0, .int .i64 0, .int .i64 0, .int .i64 0, .int .i64 0, .int .i64 0, .int .i64 0, .bool false, .int .i64 0, .int .i64 0, .int .i64 0, .slice none 0 0, .slice none 0 0, .slice none 0 0, .slice none 0 0, .slice none 0 0, .int .i64 0, .int .i64 0], 71), (R1, #[.int .i64 n.u, .int .i64 n.m, .int .i64 n.i, .int .i64 n.f, .int .i64 n.c, .int .i64 n.s, .int .i64 n.y, .bool n.a], 33)] [] from HL7.out.kept h)
    have HY := Lib.hid hy
    clear hy
    clear h
    go_wp2_with fail
    refine ((HA y d _ HY.out).out).mono ?_
    rintro e w9 ⟨z1, z2, z3, z4, z5, f1, f2, f3, f4, f5, rfl, hn, h⟩
    obtain ⟨L9, e9⟩ : ∃ x, w8.heap.size = x := ⟨_, rfl⟩
    obtain ⟨H9, f9⟩ : ∃ x, w9.heap.size = x := ⟨_, rfl⟩
    have qL9_R6 : R6 < L9 := Nat.lt_of_lt_of_eq (HL8.out.lt (.head _)) e9
    have qL9_R4 : R4 < L9 := Nat.lt_of_lt_of_eq (HL8.out.lt (.tail _ (.head _))) e9
    have qL9_R2 : R2 < L9 := Nat.lt_of_lt_of_eq (HL8.out.lt (.tail _ (.tail _ (.head _)))) e9
    have qL9_R1 : R1 < L9 := Nat.lt_of_lt_of_eq (HL8.out.lt (.tail _ (.tail _ (.tail _ (.head _))))) e9
    have qH9_L9 : L9 ≤ H9 := (by rw [← e9, ← f9]; exact h.size)
    have HL9 := Lib.hid (show Lg w w9 [(R6, #[.int .i64 n.u, .int .i64 n.m, .int .i64 n.i, .int .i64 n.f, .int .i64 n.c, .int .i64 n.s, .int .i64 n.y, .bool n.a, .int .i64 want, .int .i64 1, .int .i64 250, .slice none 0 0, .slice none 0 0, .slice none 0 0, .slice none 0 0, .slice none 0 0, .int .i64 0], 136), (R4, #[.int .i64 n.u, .int .i64 n.m, .int .i64 n.i, .int .i64 n.f, .int .i64 n.c, .int .i64 n.s, .int .i64 n.y, .bool n.a, .int .i64 want, .int .i64 1, .int .i64 250, .slice none 0 0, .bool true, .int .i64 0], 129), (R2, #[.int .i64 0, .int .i64 0, .int .i64 0, .int .i64 0, .int .i64 0, .int .i64 0, .int .i64 0, .bool false, .int .i64 0, .int .i64 0, .int .i64 0, .slice none 0 0, .slice none 0 0, .slice none 0 0, .slice none 0 0, .slice none 0 0, .int .i64 0, .int .i64 0], 71), (R1, #[.int .i64 n.u, .int .i64 n.m, .int .i64 n.i, .int .i64 n.f, .int .i64 n.c, .int .i64 n.s, .int .i64 n.y, .bool n.a], 33)] [(L9, H9, (fun W => NdNew L9 H9 W z1 z2 z3 z4 z5 X))] from HL8.out.made e9 f9 h (by rw [← e9, ← f9]; exact hn.solid))
    clear h hn e9 f9
    go_wp2_with (first
      | (refine wpList_put_at rfl 71 (.tmp 4) (.tmp 21) rfl rfl (R2) 0 rfl (.agg #[.int .i64 X.c.n.u, .int .i64 X.c.n.m, .int .i64 X.c.n.i, .int .i64 X.c.n.f, .int .i64 X.c.n.c, .int .i64 X.c.n.s, .int .i64 X.c.n.y, .bool X.c.n.a, .int .i64 X.c.ad, .int .i64 X.c.st, .int .i64 X.c.lf, .slice z1 X.c.tk.length f1, .slice z2 X.q.length f2, .slice z3 X.t.length f3, .slice z4 X.d.length f4, .slice z5 X.g.length f5, .int .i64 X.s, .int .i64 0]) rfl #[.int .i64 X.c.n.u, .int .i64 X.c.n.m, .int .i64 X.c.n.i, .int .i64 X.c.n.f, .int .i64 X.c.n.c, .int .i64 X.c.n.s, .int .i64 X.c.n.y, .bool X.c.n.a, .int .i64 X.c.ad, .int .i64 X.c.st, .int .i64 X.c.lf, .slice z1 X.c.tk.length f1, .slice z2 X.q.length f2, .slice z3 X.t.length f3, .slice z4 X.d.length f4, .slice z5 X.g.length f5, .int .i64 X.s, .int .i64 0] rfl 71 #[.int .i64 0, .int .i64 0, .int .i64 0, .int .i64 0, .int .i64 0, .int .i64 0, .int .i64 0, .bool false, .int .i64 0, .int .i64 0, .int .i64 0, .slice none 0 0, .slice none 0 0, .slice none 0 0, .slice none 0 0, .slice none 0 0, .int .i64 0, .int .i64 0] #[.int .i64 X.c.n.u, .int .i64 X.c.n.m, .int .i64 X.c.n.i, .int .i64 X.c.n.f, .int .i64 X.c.n.c, .int .i64 X.c.n.s, .int .i64 X.c.n.y, .bool X.c.n.a, .int .i64 X.c.ad, .int .i64 X.c.st, .int .i64 X.c.lf, .slice z1 X.c.tk.length f1, .slice z2 X.q.length f2, .slice z3 X.t.length f3, .slice z4 X.d.length f4, .slice z5 X.g.length f5, .int .i64 X.s, .int .i64 0] (HL9.out.get (.tail _ (.tail _ (.head _)))) (by kernel_rfl) (by kernel_rfl) (by kernel_rfl) (by kernel_rfl) ?_; intro w10 g10 o10; have HL10 := Lib.hid (show Lg w w10 [(R6, #[.int .i64 n.u, .int .i64 n.m, .int .i64 n.i, .int .i64 n.f, .int .i64 n.c, .int .i64 n.s, .int .i64 n.y, .bool n.a, .int .i64 want, .int .i64 1, .int .i64 250, .slice none 0 0, .slice none 0 0, .slice none 0 0, .slice none 0 0, .slice none 0 0, .int .i64 0], 136), (R4, #[.int .i64 n.u, .int .i64 n.m, .int .i64 n.i, .int .i64 n.f, .int .i64 n.c, .int .i64 n.s, .int .i64 n.y, .bool n.a, .int .i64 want, .int .i64 1, .int .i64 250, .slice none 0 0, .bool true, .int .i64 0], 129), (R2, #[.int .i64 X.c.n.u, .int .i64 X.c.n.m, .int .i64 X.c.n.i, .int .i64 X.c.n.f, .int .i64 X.c.n.c, .int .i64 X.c.n.s, .int .i64 X.c.n.y, .bool X.c.n.a, .int .i64 X.c.ad, .int .i64 X.c.st, .int .i64 X.c.lf, .slice z1 X.c.tk.length f1, .slice z2 X.q.length f2, .slice z3 X.t.length f3, .slice z4 X.d.length f4, .slice z5 X.g.length f5, .int .i64 X.s, .int .i64 0], 71), (R1, #[.int .i64 n.u, .int .i64 n.m, .int .i64 n.i, .int .i64 n.f, .int .i64 n.c, .int .i64 n.s, .int .i64 n.y, .bool n.a], 33)] [(L9, H9, (fun W => NdNew L9 H9 W z1 z2 z3 z4 z5 X))] from HL9.out.put 2 rfl g10 o10 (List.forall_mem_cons.2 ⟨Nat.ne_of_gt qR6_R2, (List.forall_mem_cons.2 ⟨Nat.ne_of_gt qR4_R2, (List.forall_mem_cons.2 ⟨Nat.ne_of_lt qR2_R1, (fun _ h => nomatch h)⟩)⟩)⟩) (List.forall_mem_cons.2 ⟨.inr qL9_R2, (fun _ h => nomatch h)⟩) rfl); clear g10 o10))
    exact bodyPost_ret (results_cell_row (p := 4) (ty := 71) (by kernel_rfl) _ _ (R2) 71 _ (0, 0) _ rfl (HL10.out.get (.tail _ (.tail _ (.head _)))) Try.underlying71 rfl (by kernel_rfl)) rfl ⟨z1, z2, z3, z4, z5, f1, f2, f3, f4, f5, rfl, (HL10.out.at (.head _)).wide (HL10.out.lo (.head _)) (HL10.out.hi (.head _)).2, HL10.out.below⟩
/-- The one Can of a Node that begins. -/
def GC (lo : Nat) (m : Int) (s : ByteArray) (W : World) (G : Nat) : Prop := lo ≤ G ∧ W.heap[G]? = some (.cells #[.int .i64 m, .string s] 133 (0, 0))
def FinS (R2 lo : Nat) (n : Nm) (want m : Int) (s : ByteArray) (W : World) : Prop := ∃ G, W.heap[R2]? = some (.cells #[.int .i64 n.u, .int .i64 n.m, .int .i64 n.i, .int .i64 n.f, .int .i64 n.c, .int .i64 n.s, .int .i64 n.y, .bool n.a, .int .i64 want, .int .i64 1, .int .i64 250, .slice none 0 0, .slice (some ⟨G, 0, none⟩) 1 1, .slice none 0 0, .slice none 0 0, .slice none 0 0, .int .i64 0, .int .i64 0] 71 (0, 0)) ∧ GC lo m s W G
def RS (R2 lo : Nat) (n : Nm) (want m : Int) (s : ByteArray) (W W' : World) : Prop := Out R2 (R2 + 1) W W' ∧ (W'.heap[R2]? = W.heap[R2]? ∨ FinS R2 lo n want m s W')
structure CS (w : World) (R2 lo : Nat) (n : Nm) (want m : Int) (s : ByteArray) (W : World) : Prop where
  out : Out R2 (R2 + 1) w W
  res : W.heap[R2]? = some (.cells #[.int .i64 0, .int .i64 0, .int .i64 0, .int .i64 0, .int .i64 0, .int .i64 0, .int .i64 0, .bool false, .int .i64 0, .int .i64 0, .int .i64 0, .slice none 0 0, .slice none 0 0, .slice none 0 0, .slice none 0 0, .slice none 0 0, .int .i64 0, .int .i64 0] 71 (0, 0)) ∨ FinS R2 lo n want m s W
section
variable {w W W' : World} {R2 lo : Nat} {n : Nm} {want m : Int} {s : ByteArray}
theorem GC.out {G : Nat} (h : GC lo m s W G) (ho : Out R2 (R2 + 1) W W') (hlt : R2 < lo) : GC lo m s W' G := ⟨h.1, (ho.block G (Array.getElem?_eq_some_iff.1 h.2).1 (.inr (by have := h.1; omega))).trans h.2⟩
theorem RS.refl : RS R2 lo n want m s W W := ⟨Out.refl _ _ _, .inl rfl⟩
theorem RS.fin (h : RS R2 lo n want m s W W') (k : FinS R2 lo n want m s W) (hlt : R2 < lo) : FinS R2 lo n want m s W' := by
  rcases h.2 with q | q
  · obtain ⟨G, k1, k2⟩ := k
    exact ⟨G, q.trans k1, k2.out h.1 hlt⟩
  · exact q
theorem CS.lt (h : CS w R2 lo n want m s W) : R2 < W.heap.size := h.res.elim (fun q => (Array.getElem?_eq_some_iff.1 q).1) (fun ⟨_, q, _⟩ => (Array.getElem?_eq_some_iff.1 q).1)
theorem CS.rs (h : CS w R2 lo n want m s W) (hb : Below W.heap.size W W') : RS R2 lo n want m s W W' := ⟨Out.of_below hb, .inl (hb.block _ h.lt)⟩
theorem CS.go (h : CS w R2 lo n want m s W) (hb : Below W.heap.size W W') (hlt : R2 < lo) : CS w R2 lo n want m s W' :=
  ⟨h.out.trans (Out.of_below hb), h.res.imp (fun q => (hb.block _ h.lt).trans q) (fun q => (h.rs hb).fin q hlt)⟩
end
def TS (RC R2 lo : Nat) (n : Nm) (want m : Int) (s : ByteArray) : Nat → World → Value → Prop
  | 0, _, v => v = .pointer (some ⟨RC, 0, none⟩)
  | 1, _, v => v = .agg #[.int .i64 n.u, .int .i64 n.m, .int .i64 n.i, .int .i64 n.f, .int .i64 n.c, .int .i64 n.s, .int .i64 n.y, .bool n.a, .int .i64 want, .int .i64 1, .int .i64 250, .slice none 0 0]
  | 2, _, v => v = .pointer (some ⟨RC, 0, none⟩)
  | 3, _, v => v = .agg #[.int .i64 n.u, .int .i64 n.m, .int .i64 n.i, .int .i64 n.f, .int .i64 n.c, .int .i64 n.s, .int .i64 n.y, .bool n.a, .int .i64 want, .int .i64 1, .int .i64 250, .slice none 0 0]
  | 4, _, v => v = .agg #[.int .i64 m, .string s]
  | 5, W, v => ∃ G, v = .slice (some ⟨G, 0, none⟩) 1 1 ∧ GC lo m s W G
  | 6, W, v => ∃ G, v = .agg #[.slice (some ⟨G, 0, none⟩) 1 1] ∧ GC lo m s W G
  | 7, W, v => ∃ G, v = .agg #[.int .i64 n.u, .int .i64 n.m, .int .i64 n.i, .int .i64 n.f, .int .i64 n.c, .int .i64 n.s, .int .i64 n.y, .bool n.a, .int .i64 want, .int .i64 1, .int .i64 250, .slice none 0 0, .slice (some ⟨G, 0, none⟩) 1 1, .slice none 0 0, .slice none 0 0, .slice none 0 0, .int .i64 0] ∧ GC lo m s W G
  | 8, W, v => ∃ G, v = .agg #[.int .i64 n.u, .int .i64 n.m, .int .i64 n.i, .int .i64 n.f, .int .i64 n.c, .int .i64 n.s, .int .i64 n.y, .bool n.a, .int .i64 want, .int .i64 1, .int .i64 250, .slice none 0 0, .slice (some ⟨G, 0, none⟩) 1 1, .slice none 0 0, .slice none 0 0, .slice none 0 0, .int .i64 0, .int .i64 0] ∧ GC lo m s W G
  | 9, W, _ => FinS R2 lo n want m s W
  | _ + 10, _, _ => True
theorem TS.kept {RC R2 lo : Nat} {n : Nm} {want m : Int} {s : ByteArray} (hlt : R2 < lo) : ∀ j w w' v, RS R2 lo n want m s w w' → TS RC R2 lo n want m s j w v → TS RC R2 lo n want m s j w' v
  | 0, _, _, _, _, h | 1, _, _, _, _, h | 2, _, _, _, _, h | 3, _, _, _, _, h | 4, _, _, _, _, h => h
  | 5, _, _, _, hR, ⟨G, h1, h2⟩ | 6, _, _, _, hR, ⟨G, h1, h2⟩ | 7, _, _, _, hR, ⟨G, h1, h2⟩ | 8, _, _, _, hR, ⟨G, h1, h2⟩ => ⟨G, h1, h2.out hR.1 hlt⟩
  | 9, _, _, _, hR, h => hR.fin h hlt
  | _ + 10, _, _, _, _, h => h
set_option maxRecDepth 100000 in
set_option maxHeartbeats 32000000 in
theorem specNodeNew_any (n : Nm) (want : Int) (w : World) :
    Calls Try.prog 32 #[nmV n, .int .i64 want] w (NdOutNew (nwOut n want).1 (nwOut n want).2 w) := by
  have HC := fun W => Lib.hid (specClaimNew_any n want W)
  unfold clNewV at HC
  rcases hv : (okB n && inB 0 251 want) with _ | _
  · have ho : nwOut n want = (ndZ, 1) := by unfold nwOut; rw [hv]; rfl
    rw [ho]
    rw [hv] at HC
    rw [if_neg (by decide)] at HC
    unfold clOutV at HC
    unfold nmV NdOutNew ndOutV
    clear ho hv
    dsimp only at *
    go_enter Try.func32, Try.ntmps32
    go_wp2_with (first
      | (refine wpList_box_h rfl 33 (.tmp 0) rfl #[.int .i64 n.u, .int .i64 n.m, .int .i64 n.i, .int .i64 n.f, .int .i64 n.c, .int .i64 n.s, .int .i64 n.y, .bool n.a] rfl ?_; intro w1 R1 e1 g1 b1; have HL1 := Lib.hid (show Lg w w1 [(R1, #[.int .i64 n.u, .int .i64 n.m, .int .i64 n.i, .int .i64 n.f, .int .i64 n.c, .int .i64 n.s, .int .i64 n.y, .bool n.a], 33)] [] from (Lg.first w).box e1 g1 b1); clear g1 b1 e1)
      | (refine wpList_alloc_h rfl 71 rfl (.agg #[.int .i64 0, .int .i64 0, .int .i64 0, .int .i64 0, .int .i64 0, .int .i64 0, .int .i64 0, .bool false, .int .i64 0, .int .i64 0, .int .i64 0, .slice none 0 0, .slice none 0 0, .slice none 0 0, .slice none 0 0, .slice none 0 0, .int .i64 0, .int .i64 0]) (by kernel_rfl) #[.int .i64 0, .int .i64 0, .int .i64 0, .int .i64 0, .int .i64 0, .int .i64 0, .int .i64 0, .bool false, .int .i64 0, .int .i64 0, .int .i64 0, .slice none 0 0, .slice none 0 0, .slice none 0 0, .slice none 0 0, .slice none 0 0, .int .i64 0, .int .i64 0] rfl ?_; intro w2 R2 e2 g2 b2; have qR2_R1 : R1 < R2 := Nat.lt_of_lt_of_eq (HL1.out.lt (.head _)) e2; have HL2 := Lib.hid (show Lg w w2 [(R2, #[.int .i64 0, .int .i64 0, .int .i64 0, .int .i64 0, .int .i64 0, .int .i64 0, .int .i64 0, .bool false, .int .i64 0, .int .i64 0, .int .i64 0, .slice none 0 0, .slice none 0 0, .slice none 0 0, .slice none 0 0, .slice none 0 0, .int .i64 0, .int .i64 0], 71), (R1, #[.int .i64 n.u, .int .i64 n.m, .int .i64 n.i, .int .i64 n.f, .int .i64 n.c, .int .i64 n.s, .int .i64 n.y, .bool n.a], 33)] [] from HL1.out.box e2 g2 b2); clear g2 b2 e2)
      | (refine wpList_load_at rfl 33 (.tmp 2) rfl (R1) 0 rfl 33 #[.int .i64 n.u, .int .i64 n.m, .int .i64 n.i, .int .i64 n.f, .int .i64 n.c, .int .i64 n.s, .int .i64 n.y, .bool n.a] (0, 0) (HL2.out.get (.tail _ (.head _))) [.int .i64 n.u, .int .i64 n.m, .int .i64 n.i, .int .i64 n.f, .int .i64 n.c, .int .i64 n.s, .int .i64 n.y, .bool n.a] rfl _ Try.underlying33 rfl (by kernel_rfl) ?_))
    refine ((HC _).out).mono ?_
    rintro e w3 ⟨rfl, h⟩
    have HL3 := Lib.hid (show Lg w w3 [(R2, #[.int .i64 0, .int .i64 0, .int .i64 0, .int .i64 0, .int .i64 0, .int .i64 0, .int .i64 0, .bool false, .int .i64 0, .int .i64 0, .int .i64 0, .slice none 0 0, .slice none 0 0, .slice none 0 0, .slice none 0 0, .slice none 0 0, .int .i64 0, .int .i64 0], 71), (R1, #[.int .i64 n.u, .int .i64 n.m, .int .i64 n.i, .int .i64 n.f, .int .i64 n.c, .int .i64 n.s, .int .i64 n.y, .bool n.a], 33)] [] from HL2.out.kept h)
    clear h
    go_wp2_with (first
      | (refine wpList_alloc_h rfl 129 rfl (.agg #[.int .i64 0, .int .i64 0, .int .i64 0, .int .i64 0, .int .i64 0, .int .i64 0, .int .i64 0, .bool false, .int .i64 0, .int .i64 0, .int .i64 0, .slice none 0 0, .bool false, .int .i64 0]) (by kernel_rfl) #[.int .i64 0, .int .i64 0, .int .i64 0, .int .i64 0, .int .i64 0, .int .i64 0, .int .i64 0, .bool false, .int .i64 0, .int .i64 0, .int .i64 0, .slice none 0 0, .bool false, .int .i64 0] rfl ?_; intro w4 R4 e4 g4 b4; have qR4_R2 : R2 < R4 := Nat.lt_of_lt_of_eq (HL3.out.lt (.head _)) e4; have qR4_R1 : R1 < R4 := Nat.lt_of_lt_of_eq (HL3.out.lt (.tail _ (.head _))) e4; have HL4 := Lib.hid (show Lg w w4 [(R4, #[.int .i64 0, .int .i64 0, .int .i64 0, .int .i64 0, .int .i64 0, .int .i64 0, .int .i64 0, .bool false, .int .i64 0, .int .i64 0, .int .i64 0, .slice none 0 0, .bool false, .int .i64 0], 129), (R2, #[.int .i64 0, .int .i64 0, .int .i64 0, .int .i64 0, .int .i64 0, .int .i64 0, .int .i64 0, .bool false, .int .i64 0, .int .i64 0, .int .i64 0, .slice none 0 0, .slice none 0 0, .slice none 0 0, .slice none 0 0, .slice none 0 0, .int .i64 0, .int .i64 0], 71), (R1, #[.int .i64 n.u, .int .i64 n.m, .int .i64 n.i, .int .i64 n.f, .int .i64 n.c, .int .i64 n.s, .int .i64 n.y, .bool n.a], 33)] [] from HL3.out.box e4 g4 b4); clear g4 b4 e4)
      | (refine wpList_put_at rfl 129 (.tmp 5) (.tmp 8) rfl rfl (R4) 0 rfl (.agg #[.int .i64 0, .int .i64 0, .int .i64 0, .int .i64 0, .int .i64 0, .int .i64 0, .int .i64 0, .bool false, .int .i64 0, .int .i64 0, .int .i64 0, .slice none 0 0, .bool false, .int .i64 1]) rfl #[.int .i64 0, .int .i64 0, .int .i64 0, .int .i64 0, .int .i64 0, .int .i64 0, .int .i64 0, .bool false, .int .i64 0, .int .i64 0, .int .i64 0, .slice none 0 0, .bool false, .int .i64 1] rfl 129 #[.int .i64 0, .int .i64 0, .int .i64 0, .int .i64 0, .int .i64 0, .int .i64 0, .int .i64 0, .bool false, .int .i64 0, .int .i64 0, .int .i64 0, .slice none 0 0, .bool false, .int .i64 0] #[.int .i64 0, .int .i64 0, .int .i64 0, .int .i64 0, .int .i64 0, .int .i64 0, .int .i64 0, .bool false, .int .i64 0, .int .i64 0, .int .i64 0, .slice none 0 0, .bool false, .int .i64 1] (HL4.out.get (.head _)) (by kernel_rfl) (by kernel_rfl) (by kernel_rfl) (by kernel_rfl) ?_; intro w5 g5 o5; have HL5 := Lib.hid (show Lg w w5 [(R4, #[.int .i64 0, .int .i64 0, .int .i64 0, .int .i64 0, .int .i64 0, .int .i64 0, .int .i64 0, .bool false, .int .i64 0, .int .i64 0, .int .i64 0, .slice none 0 0, .bool false, .int .i64 1], 129), (R2, #[.int .i64 0, .int .i64 0, .int .i64 0, .int .i64 0, .int .i64 0, .int .i64 0, .int .i64 0, .bool false, .int .i64 0, .int .i64 0, .int .i64 0, .slice none 0 0, .slice none 0 0, .slice none 0 0, .slice none 0 0, .slice none 0 0, .int .i64 0, .int .i64 0], 71), (R1, #[.int .i64 n.u, .int .i64 n.m, .int .i64 n.i, .int .i64 n.f, .int .i64 n.c, .int .i64 n.s, .int .i64 n.y, .bool n.a], 33)] [] from HL4.out.put 0 rfl g5 o5 (List.forall_mem_cons.2 ⟨Nat.ne_of_lt qR4_R2, (List.forall_mem_cons.2 ⟨Nat.ne_of_lt qR4_R1, (fun _ h => nomatch h)⟩)⟩) (fun _ h => nomatch h) rfl); clear g5 o5)
      | (refine wpList_load_one rfl 2 (.tmp 9) rfl (R4) 13 rfl 129 #[.int .i64 0, .int .i64 0, .int .i64 0, .int .i64 0, .int .i64 0, .int .i64 0, .int .i64 0, .bool false, .int .i64 0, .int .i64 0, .int .i64 0, .slice none 0 0, .bool false, .int .i64 1] (0, 0) (HL5.out.get (.head _)) (.int .i64 1) rfl _ Try.underlying2 rfl (by kernel_rfl) ?_)
      | (refine wpList_load_one rfl 2 (.tmp 12) rfl (R4) 13 rfl 129 #[.int .i64 0, .int .i64 0, .int .i64 0, .int .i64 0, .int .i64 0, .int .i64 0, .int .i64 0, .bool false, .int .i64 0, .int .i64 0, .int .i64 0, .slice none 0 0, .bool false, .int .i64 1] (0, 0) (HL5.out.get (.head _)) (.int .i64 1) rfl _ Try.underlying2 rfl (by kernel_rfl) ?_))
    refine (l10Ill_any 1 _).mono ?_
    rintro e w6 ⟨rfl, h⟩
    have HL6 := Lib.hid (show Lg w w6 [(R4, #[.int .i64 0, .int .i64 0, .int .i64 0, .int .i64 0, .int .i64 0, .int .i64 0, .int .i64 0, .bool false, .int .i64 0, .int .i64 0, .int .i64 0, .slice none 0 0, .bool false, .int .i64 1], 129), (R2, #[.int .i64 0, .int .i64 0, .int .i64 0, .int .i64 0, .int .i64 0, .int .i64 0, .int .i64 0, .bool false, .int .i64 0, .int .i64 0, .int .i64 0, .slice none 0 0, .slice none 0 0, .slice none 0 0, .slice none 0 0, .slice none 0 0, .int .i64 0, .int .i64 0], 71), (R1, #[.int .i64 n.u, .int .i64 n.m, .int .i64 n.i, .int .i64 n.f, .int .i64 n.c, .int .i64 n.s, .int .i64 n.y, .bool n.a], 33)] [] from HL5.out.kept h)
    clear h
    go_wp2_with (first
      | (refine wpList_put_at rfl 71 (.tmp 4) (.tmp 14) rfl rfl (R2) 0 rfl (.agg #[.int .i64 0, .int .i64 0, .int .i64 0, .int .i64 0, .int .i64 0, .int .i64 0, .int .i64 0, .bool false, .int .i64 0, .int .i64 0, .int .i64 0, .slice none 0 0, .slice none 0 0, .slice none 0 0, .slice none 0 0, .slice none 0 0, .int .i64 0, .int .i64 1]) rfl #[.int .i64 0, .int .i64 0, .int .i64 0, .int .i64 0, .int .i64 0, .int .i64 0, .int .i64 0, .bool false, .int .i64 0, .int .i64 0, .int .i64 0, .slice none 0 0, .slice none 0 0, .slice none 0 0, .slice none 0 0, .slice none 0 0, .int .i64 0, .int .i64 1] rfl 71 #[.int .i64 0, .int .i64 0, .int .i64 0, .int .i64 0, .int .i64 0, .int .i64 0, .int .i64 0, .bool false, .int .i64 0, .int .i64 0, .int .i64 0, .slice none 0 0, .slice none 0 0, .slice none 0 0, .slice none 0 0, .slice none 0 0, .int .i64 0, .int .i64 0] #[.int .i64 0, .int .i64 0, .int .i64 0, .int .i64 0, .int .i64 0, .int .i64 0, .int .i64 0, .bool false, .int .i64 0, .int .i64 0, .int .i64 0, .slice none 0 0, .slice none 0 0, .slice none 0 0, .slice none 0 0, .slice none 0 0, .int .i64 0, .int .i64 1] (HL6.out.get (.tail _ (.head _))) (by kernel_rfl) (by kernel_rfl) (by kernel_rfl) (by kernel_rfl) ?_; intro w7 g7 o7; have HL7 := Lib.hid (show Lg w w7 [(R4, #[.int .i64 0, .int .i64 0, .int .i64 0, .int .i64 0, .int .i64 0, .int .i64 0, .int .i64 0, .bool false, .int .i64 0, .int .i64 0, .int .i64 0, .slice none 0 0, .bool false, .int .i64 1], 129), (R2, #[.int .i64 0, .int .i64 0, .int .i64 0, .int .i64 0, .int .i64 0, .int .i64 0, .int .i64 0, .bool false, .int .i64 0, .int .i64 0, .int .i64 0, .slice none 0 0, .slice none 0 0, .slice none 0 0, .slice none 0 0, .slice none 0 0, .int .i64 0, .int .i64 1], 71), (R1, #[.int .i64 n.u, .int .i64 n.m, .int .i64 n.i, .int .i64 n.f, .int .i64 n.c, .int .i64 n.s, .int .i64 n.y, .bool n.a], 33)] [] from HL6.out.put 1 rfl g7 o7 (List.forall_mem_cons.2 ⟨Nat.ne_of_gt qR4_R2, (List.forall_mem_cons.2 ⟨Nat.ne_of_lt qR2_R1, (fun _ h => nomatch h)⟩)⟩) (fun _ h => nomatch h) rfl); clear g7 o7))
    exact bodyPost_ret (results_cell_row (p := 4) (ty := 71) (by kernel_rfl) _ _ (R2) 71 _ (0, 0) _ rfl (HL7.out.get (.tail _ (.head _))) Try.underlying71 rfl (by kernel_rfl)) rfl ⟨none, none, none, none, none, 0, 0, 0, 0, 0, rfl, ndZ_new HL7.out.below.size, HL7.out.below⟩
  · have ho : nwOut n want = (nwN n want, 0) := by unfold nwOut; rw [hv]; rfl
    rw [ho]
    rw [hv] at HC
    rw [if_pos rfl] at HC
    unfold clOutV at HC
    obtain ⟨hok, hid⟩ := clB_id (nwC_right hv)
    obtain ⟨i0, hi, hz0, hz1, hz2⟩ := info_parts CansTo.info
    have HI0 := Lib.hid (And.intro hi (And.intro hz0 hz1))
    have HD := fun W => Lib.hid (l05Can_any n want 1 250 none 0 0 W hok hid)
    have hX : nwN n want = ⟨nwC n want, [clCan (nwC n want)], [], [], [], 0⟩ := rfl
    have hc : clCan (nwC n want) = (idN 6 60928 255 want, ⟨(nmL n).toArray⟩) := if_pos (nwC_right hv)
    rw [hX, hc]
    unfold clV at HD
    generalize idN 6 60928 255 want = m at *
    generalize (⟨(nmL n).toArray⟩ : ByteArray) = s at *
    clear ho hv hok hid hX hc hi hz0 hz1 hz2
    unfold NdOutNew ndOutV nmV
    dsimp only at *
    go_enter Try.func32, Try.ntmps32
    go_wp2_with (first
      | (refine wpList_box_h rfl 33 (.tmp 0) rfl #[.int .i64 n.u, .int .i64 n.m, .int .i64 n.i, .int .i64 n.f, .int .i64 n.c, .int .i64 n.s, .int .i64 n.y, .bool n.a] rfl ?_; intro w1 R1 e1 g1 b1; have HL1 := Lib.hid (show Lg w w1 [(R1, #[.int .i64 n.u, .int .i64 n.m, .int .i64 n.i, .int .i64 n.f, .int .i64 n.c, .int .i64 n.s, .int .i64 n.y, .bool n.a], 33)] [] from (Lg.first w).box e1 g1 b1); clear g1 b1 e1)
      | (refine wpList_alloc_h rfl 71 rfl (.agg #[.int .i64 0, .int .i64 0, .int .i64 0, .int .i64 0, .int .i64 0, .int .i64 0, .int .i64 0, .bool false, .int .i64 0, .int .i64 0, .int .i64 0, .slice none 0 0, .slice none 0 0, .slice none 0 0, .slice none 0 0, .slice none 0 0, .int .i64 0, .int .i64 0]) (by kernel_rfl) #[.int .i64 0, .int .i64 0, .int .i64 0, .int .i64 0, .int .i64 0, .int .i64 0, .int .i64 0, .bool false, .int .i64 0, .int .i64 0, .int .i64 0, .slice none 0 0, .slice none 0 0, .slice none 0 0, .slice none 0 0, .slice none 0 0, .int .i64 0, .int .i64 0] rfl ?_; intro w2 R2 e2 g2 b2; have qR2_R1 : R1 < R2 := Nat.lt_of_lt_of_eq (HL1.out.lt (.head _)) e2; have HL2 := Lib.hid (show Lg w w2 [(R2, #[.int .i64 0, .int .i64 0, .int .i64 0, .int .i64 0, .int .i64 0, .int .i64 0, .int .i64 0, .bool false, .int .i64 0, .int .i64 0, .int .i64 0, .slice none 0 0, .slice none 0 0, .slice none 0 0, .slice none 0 0, .slice none 0 0, .int .i64 0, .int .i64 0], 71), (R1, #[.int .i64 n.u, .int .i64 n.m, .int .i64 n.i, .int .i64 n.f, .int .i64 n.c, .int .i64 n.s, .int .i64 n.y, .bool n.a], 33)] [] from HL1.out.box e2 g2 b2); clear g2 b2 e2)
      | (refine wpList_load_at rfl 33 (.tmp 2) rfl (R1) 0 rfl 33 #[.int .i64 n.u, .int .i64 n.m, .int .i64 n.i, .int .i64 n.f, .int .i64 n.c, .int .i64 n.s, .int .i64 n.y, .bool n.a] (0, 0) (HL2.out.get (.tail _ (.head _))) [.int .i64 n.u, .int .i64 n.m, .int .i64 n.i, .int .i64 n.f, .int .i64 n.c, .int .i64 n.s, .int .i64 n.y, .bool n.a] rfl _ Try.underlying33 rfl (by kernel_rfl) ?_))
    refine ((HC _).out).mono ?_
    rintro e w3 ⟨rfl, h⟩
    have HL3 := Lib.hid (show Lg w w3 [(R2, #[.int .i64 0, .int .i64 0, .int .i64 0, .int .i64 0, .int .i64 0, .int .i64 0, .int .i64 0, .bool false, .int .i64 0, .int .i64 0, .int .i64 0, .slice none 0 0, .slice none 0 0, .slice none 0 0, .slice none 0 0, .slice none 0 0, .int .i64 0, .int .i64 0], 71), (R1, #[.int .i64 n.u, .int .i64 n.m, .int .i64 n.i, .int .i64 n.f, .int .i64 n.c, .int .i64 n.s, .int .i64 n.y, .bool n.a], 33)] [] from HL2.out.kept h)
    clear h
    go_wp2_with (first
      | (refine wpList_alloc_h rfl 129 rfl (.agg #[.int .i64 0, .int .i64 0, .int .i64 0, .int .i64 0, .int .i64 0, .int .i64 0, .int .i64 0, .bool false, .int .i64 0, .int .i64 0, .int .i64 0, .slice none 0 0, .bool false, .int .i64 0]) (by kernel_rfl) #[.int .i64 0, .int .i64 0, .int .i64 0, .int .i64 0, .int .i64 0, .int .i64 0, .int .i64 0, .bool false, .int .i64 0, .int .i64 0, .int .i64 0, .slice none 0 0, .bool false, .int .i64 0] rfl ?_; intro w4 R4 e4 g4 b4; have qR4_R2 : R2 < R4 := Nat.lt_of_lt_of_eq (HL3.out.lt (.head _)) e4; have qR4_R1 : R1 < R4 := Nat.lt_of_lt_of_eq (HL3.out.lt (.tail _ (.head _))) e4; have HL4 := Lib.hid (show Lg w w4 [(R4, #[.int .i64 0, .int .i64 0, .int .i64 0, .int .i64 0, .int .i64 0, .int .i64 0, .int .i64 0, .bool false, .int .i64 0, .int .i64 0, .int .i64 0, .slice none 0 0, .bool false, .int .i64 0], 129), (R2, #[.int .i64 0, .int .i64 0, .int .i64 0, .int .i64 0, .int .i64 0, .int .i64 0, .int .i64 0, .bool false, .int .i64 0, .int .i64 0, .int .i64 0, .slice none 0 0, .slice none 0 0, .slice none 0 0, .slice none 0 0, .slice none 0 0, .int .i64 0, .int .i64 0], 71), (R1, #[.int .i64 n.u, .int .i64 n.m, .int .i64 n.i, .int .i64 n.f, .int .i64 n.c, .int .i64 n.s, .int .i64 n.y, .bool n.a], 33)] [] from HL3.out.box e4 g4 b4); clear g4 b4 e4)
      | (refine wpList_put_at rfl 129 (.tmp 5) (.tmp 8) rfl rfl (R4) 0 rfl (.agg #[.int .i64 n.u, .int .i64 n.m, .int .i64 n.i, .int .i64 n.f, .int .i64 n.c, .int .i64 n.s, .int .i64 n.y, .bool n.a, .int .i64 want, .int .i64 1, .int .i64 250, .slice none 0 0, .bool true, .int .i64 0]) rfl #[.int .i64 n.u, .int .i64 n.m, .int .i64 n.i, .int .i64 n.f, .int .i64 n.c, .int .i64 n.s, .int .i64 n.y, .bool n.a, .int .i64 want, .int .i64 1, .int .i64 250, .slice none 0 0, .bool true, .int .i64 0] rfl 129 #[.int .i64 0, .int .i64 0, .int .i64 0, .int .i64 0, .int .i64 0, .int .i64 0, .int .i64 0, .bool false, .int .i64 0, .int .i64 0, .int .i64 0, .slice none 0 0, .bool false, .int .i64 0] #[.int .i64 n.u, .int .i64 n.m, .int .i64 n.i, .int .i64 n.f, .int .i64 n.c, .int .i64 n.s, .int .i64 n.y, .bool n.a, .int .i64 want, .int .i64 1, .int .i64 250, .slice none 0 0, .bool true, .int .i64 0] (HL4.out.get (.head _)) (by kernel_rfl) (by kernel_rfl) (by kernel_rfl) (by kernel_rfl) ?_; intro w5 g5 o5; have HL5 := Lib.hid (show Lg w w5 [(R4, #[.int .i64 n.u, .int .i64 n.m, .int .i64 n.i, .int .i64 n.f, .int .i64 n.c, .int .i64 n.s, .int .i64 n.y, .bool n.a, .int .i64 want, .int .i64 1, .int .i64 250, .slice none 0 0, .bool true, .int .i64 0], 129), (R2, #[.int .i64 0, .int .i64 0, .int .i64 0, .int .i64 0, .int .i64 0, .int .i64 0, .int .i64 0, .bool false, .int .i64 0, .int .i64 0, .int .i64 0, .slice none 0 0, .slice none 0 0, .slice none 0 0, .slice none 0 0, .slice none 0 0, .int .i64 0, .int .i64 0], 71), (R1, #[.int .i64 n.u, .int .i64 n.m, .int .i64 n.i, .int .i64 n.f, .int .i64 n.c, .int .i64 n.s, .int .i64 n.y, .bool n.a], 33)] [] from HL4.out.put 0 rfl g5 o5 (List.forall_mem_cons.2 ⟨Nat.ne_of_lt qR4_R2, (List.forall_mem_cons.2 ⟨Nat.ne_of_lt qR4_R1, (fun _ h => nomatch h)⟩)⟩) (fun _ h => nomatch h) rfl); clear g5 o5)
      | (refine wpList_load_one rfl 2 (.tmp 9) rfl (R4) 13 rfl 129 #[.int .i64 n.u, .int .i64 n.m, .int .i64 n.i, .int .i64 n.f, .int .i64 n.c, .int .i64 n.s, .int .i64 n.y, .bool n.a, .int .i64 want, .int .i64 1, .int .i64 250, .slice none 0 0, .bool true, .int .i64 0] (0, 0) (HL5.out.get (.head _)) (.int .i64 0) rfl _ Try.underlying2 rfl (by kernel_rfl) ?_))
    have HRc := Lib.hid (HL5.out.get (.head _))
    have HR2 := Lib.hid (HL5.out.get (.tail _ (.head _)))
    have hRc : R4 < w5.heap.size := HL5.out.lt (.head _)
    have hR2 : R2 < w5.heap.size := HL5.out.lt (.tail _ (.head _))
    have hR2w : w.heap.size ≤ R2 := HL5.out.ge (.tail _ (.head _))
    have hne : R2 < R4 := qR4_R2
    have HBb := Lib.hid HL5.out.below
    have HRk := fun W (h : CS w5 R2 w5.heap.size n want m s W) => Lib.hid ((h.out.block R4 hRc (.inr (by omega))).trans HRc.out)
    refine wp_region_anyord (CS w5 R2 w5.heap.size n want m s) (RS R2 w5.heap.size n want m s) (TS R4 R2 w5.heap.size n want m s) (by kernel_rfl) (by kernel_rfl) (by kernel_rfl) (TS.kept hR2) ?_ ?_ ?_
    · exact ⟨⟨rfl, rfl, rfl, Nat.le_refl _, fun _ _ _ => rfl⟩, .inl HR2.out⟩
    · refine ⟨⟨rfl, fun a_ W hC hK => ?_⟩, ⟨rfl, fun a_ W hC hK => ?_⟩, ⟨rfl, fun a_ W hC hK => ?_⟩, ⟨rfl, fun a_ W hC hK => ?_⟩, ⟨rfl, fun a_ W hC hK => ?_⟩, ⟨rfl, fun a_ W hC hK => ?_⟩, ⟨rfl, fun a_ W hC hK => ?_⟩, ⟨rfl, fun a_ W hC hK => ?_⟩, ⟨rfl, fun a_ W hC hK => ?_⟩, ⟨rfl, fun a_ W hC hK => ?_⟩, trivial⟩
      · have e1 : a_.eval (.tmp 5) = .pointer (some ⟨R4, 0, none⟩) := (hK.old 5 (by kernel_rfl)).trans rfl
        have c0 := cell_of_row W R4 0 _ _ (0, 0) (HRk W hC).out
        simp only [Act.eval, Array.getD_eq_getD_getElem?] at e1
        exact ob_value (v := .pointer (some ⟨R4, 0, none⟩)) (w' := W) (by simp [execOp, go_sem, e1]) ⟨_, rfl, hC, RS.refl, rfl⟩
      · have e1 : a_.eval (.tmp 15) = .pointer (some ⟨R4, 0, none⟩) := freeOf_get hK 0 15 (by kernel_rfl) rfl rfl rfl
        exact wp_load_mid 60 (.tmp 15) rfl R4 0 e1 [.int .i64 n.u, .int .i64 n.m, .int .i64 n.i, .int .i64 n.f, .int .i64 n.c, .int .i64 n.s, .int .i64 n.y, .bool n.a, .int .i64 want, .int .i64 1, .int .i64 250, .slice none 0 0] _ (fun j v hv => (cell_of_row W R4 (0 + j) _ _ (0, 0) (HRk W hC).out).trans (by
          rcases j with _ | _ | _ | _ | _ | _ | _ | _ | _ | _ | _ | _ | j
          all_goals first | exact hv | (simp at hv))) Try.underlying60 rfl (by kernel_rfl) ⟨_, rfl, hC, RS.refl, rfl⟩
      · have e1 : a_.eval (.tmp 5) = .pointer (some ⟨R4, 0, none⟩) := (hK.old 5 (by kernel_rfl)).trans rfl
        have c0 := cell_of_row W R4 0 _ _ (0, 0) (HRk W hC).out
        simp only [Act.eval, Array.getD_eq_getD_getElem?] at e1
        exact ob_value (v := .pointer (some ⟨R4, 0, none⟩)) (w' := W) (by simp [execOp, go_sem, e1]) ⟨_, rfl, hC, RS.refl, rfl⟩
      · have e1 : a_.eval (.tmp 17) = .pointer (some ⟨R4, 0, none⟩) := freeOf_get hK 2 17 (by kernel_rfl) rfl rfl rfl
        exact wp_load_mid 60 (.tmp 17) rfl R4 0 e1 [.int .i64 n.u, .int .i64 n.m, .int .i64 n.i, .int .i64 n.f, .int .i64 n.c, .int .i64 n.s, .int .i64 n.y, .bool n.a, .int .i64 want, .int .i64 1, .int .i64 250, .slice none 0 0] _ (fun j v hv => (cell_of_row W R4 (0 + j) _ _ (0, 0) (HRk W hC).out).trans (by
          rcases j with _ | _ | _ | _ | _ | _ | _ | _ | _ | _ | _ | _ | j
          all_goals first | exact hv | (simp at hv))) Try.underlying60 rfl (by kernel_rfl) ⟨_, rfl, hC, RS.refl, rfl⟩
      · have e1 : a_.eval (.tmp 18) = .agg #[.int .i64 n.u, .int .i64 n.m, .int .i64 n.i, .int .i64 n.f, .int .i64 n.c, .int .i64 n.s, .int .i64 n.y, .bool n.a, .int .i64 want, .int .i64 1, .int .i64 250, .slice none 0 0] := freeOf_get hK 3 18 (by kernel_rfl) rfl rfl rfl
        simp only [Act.eval, Array.getD_eq_getD_getElem?] at e1
        refine ob_call rfl Try.func84 (by kernel_rfl) (by kernel_rfl) (vals := #[.agg #[.int .i64 n.u, .int .i64 n.m, .int .i64 n.i, .int .i64 n.f, .int .i64 n.c, .int .i64 n.s, .int .i64 n.y, .bool n.a, .int .i64 want, .int .i64 1, .int .i64 250, .slice none 0 0]]) (by simp [Act.eval, e1]) ?_
        refine (HD W).out.mono ?_
        rintro e W' ⟨rfl, hb⟩
        exact ⟨_, rfl, _, rfl, hC.go hb hR2, hC.rs hb, rfl⟩
      · have e1 : a_.eval (.tmp 19) = .agg #[.int .i64 m, .string s] := freeOf_get hK 4 19 (by kernel_rfl) rfl rfl rfl
        have hb : Below W.heap.size W (W.alloc (.cells #[.int .i64 m, .string s] 133 (0, 0))) := (Below.refl _ _).alloc (Nat.le_refl _) _
        exact ob_lit1_row 61 (.tmp 19) rfl 133 i0 Try.underlying61 HI0.out.1 _ HI0.out.2.1 HI0.out.2.2 [.int .i64 m, .string s] _ e1 rfl rfl (by rfl) (by decide) (by decide) ⟨_, rfl, hC.go hb hR2, hC.rs hb, _, rfl, hC.out.size, heap_alloc_new W _⟩
      · obtain ⟨G, e1, hg⟩ : TS R4 R2 w5.heap.size n want m s 5 W (a_.eval (.tmp 20)) := freeOf_get hK 5 20 (by kernel_rfl) rfl rfl rfl
        simp only [Act.eval, Array.getD_eq_getD_getElem?] at e1
        exact ob_value (v := .agg #[.slice (some ⟨G, 0, none⟩) 1 1]) (w' := W) (by simp [execOp, go_sem, e1]) ⟨_, rfl, hC, RS.refl, G, rfl, hg⟩
      · have e0 : a_.eval (.tmp 16) = .agg #[.int .i64 n.u, .int .i64 n.m, .int .i64 n.i, .int .i64 n.f, .int .i64 n.c, .int .i64 n.s, .int .i64 n.y, .bool n.a, .int .i64 want, .int .i64 1, .int .i64 250, .slice none 0 0] := freeOf_get hK 1 16 (by kernel_rfl) rfl rfl rfl
        obtain ⟨G, e1, hg⟩ : TS R4 R2 w5.heap.size n want m s 6 W (a_.eval (.tmp 21)) := freeOf_get hK 6 21 (by kernel_rfl) rfl rfl rfl
        simp only [Act.eval, Array.getD_eq_getD_getElem?] at e0 e1
        exact ob_value (v := .agg #[.int .i64 n.u, .int .i64 n.m, .int .i64 n.i, .int .i64 n.f, .int .i64 n.c, .int .i64 n.s, .int .i64 n.y, .bool n.a, .int .i64 want, .int .i64 1, .int .i64 250, .slice none 0 0, .slice (some ⟨G, 0, none⟩) 1 1, .slice none 0 0, .slice none 0 0, .slice none 0 0, .int .i64 0]) (w' := W) (by simp [execOp, go_sem, e0, e1]) ⟨_, rfl, hC, RS.refl, G, rfl, hg⟩
      · obtain ⟨G, e1, hg⟩ : TS R4 R2 w5.heap.size n want m s 7 W (a_.eval (.tmp 22)) := freeOf_get hK 7 22 (by kernel_rfl) rfl rfl rfl
        simp only [Act.eval, Array.getD_eq_getD_getElem?] at e1
        exact ob_value (v := .agg #[.int .i64 n.u, .int .i64 n.m, .int .i64 n.i, .int .i64 n.f, .int .i64 n.c, .int .i64 n.s, .int .i64 n.y, .bool n.a, .int .i64 want, .int .i64 1, .int .i64 250, .slice none 0 0, .slice (some ⟨G, 0, none⟩) 1 1, .slice none 0 0, .slice none 0 0, .slice none 0 0, .int .i64 0, .int .i64 0]) (w' := W) (by simp [execOp, go_sem, e1]) ⟨_, rfl, hC, RS.refl, G, rfl, hg⟩
      · obtain ⟨G, e1, hg⟩ : TS R4 R2 w5.heap.size n want m s 8 W (a_.eval (.tmp 23)) := freeOf_get hK 8 23 (by kernel_rfl) rfl rfl rfl
        have e2 : a_.eval (.tmp 4) = .pointer (some ⟨R2, 0, none⟩) := (hK.old 4 (by kernel_rfl)).trans rfl
        have hfin : ∀ w', w'.heap[R2]? = some (.cells #[.int .i64 n.u, .int .i64 n.m, .int .i64 n.i, .int .i64 n.f, .int .i64 n.c, .int .i64 n.s, .int .i64 n.y, .bool n.a, .int .i64 want, .int .i64 1, .int .i64 250, .slice none 0 0, .slice (some ⟨G, 0, none⟩) 1 1, .slice none 0 0, .slice none 0 0, .slice none 0 0, .int .i64 0, .int .i64 0] 71 (0, 0)) → Out R2 (R2 + 1) W w' → ∃ v, a_.put none undef = a_.put none v ∧ CS w5 R2 w5.heap.size n want m s w' ∧ RS R2 w5.heap.size n want m s W w' ∧ TS R4 R2 w5.heap.size n want m s 9 w' v := fun w' hg' ho => by
          have hF : FinS R2 w5.heap.size n want m s w' := ⟨G, hg', hg.out ho hR2⟩
          exact ⟨undef, rfl, ⟨hC.out.trans ho, .inr hF⟩, ⟨ho, .inr hF⟩, hF⟩
        rcases hC.res with hq | ⟨G', hq, -⟩
        · exact ob_put_row 71 (.tmp 4) (.tmp 23) rfl R2 e2 _ e1 _ rfl 71 _ _ hq (by kernel_rfl) (by kernel_rfl) (by kernel_rfl) (by kernel_rfl) hfin
        · exact ob_put_row 71 (.tmp 4) (.tmp 23) rfl R2 e2 _ e1 _ rfl 71 _ _ hq (by kernel_rfl) (by kernel_rfl) (by kernel_rfl) (by kernel_rfl) hfin
    · intro vs W hC hT
      obtain ⟨G, hq, hG⟩ : FinS R2 w5.heap.size n want m s W := hT 9 (by decide)
      simp only [fillL, if_true, Act.put, List.setIfInBounds_toArray, List.set_cons_zero, List.set_cons_succ]
      have HF := Lib.hid hq
      have HBf := Lib.hid (hC.out.below HBb.out hR2w HBb.out.size)
      have HNw : Hid (NdNew w.heap.size W.heap.size W none (some ⟨G, 0, none⟩) none none none ⟨nwC n want, [(m, s)], [], [], [], 0⟩) := Lib.hid (Rows5.new ⟨.inl rfl, .inr ⟨G, 0, _, rfl, Nat.le_trans HBb.out.size hG.1, (Array.getElem?_eq_some_iff.1 hG.2).1, hG.2, by show 0 + 1 * 2 ≤ 2; decide, fun i y hy j v hv => by
        rcases i with _ | i
        · simp at hy
          subst hy
          rcases j with _ | _ | j
          · exact hv
          · exact hv
          · simp [canL] at hv
        · simp at hy⟩, .inl rfl, .inl rfl, .inl rfl⟩ HBf.out.size)
      clear hC hT hq hG
      go_wp2_with fail
      exact bodyPost_ret (results_cell_row (p := 4) (ty := 71) (by kernel_rfl) _ _ (R2) 71 _ (0, 0) _ rfl HF.out Try.underlying71 rfl (by kernel_rfl)) rfl ⟨none, some ⟨G, 0, none⟩, none, none, none, 0, 1, 0, 0, 0, rfl, HNw.out, HBf.out⟩
end Go.Proofs.Ytpolpkheaibonaa
