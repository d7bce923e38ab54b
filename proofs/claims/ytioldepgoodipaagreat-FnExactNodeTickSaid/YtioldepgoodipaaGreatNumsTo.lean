/- The laws' own szInt64S, toInt64S and eqInt64S: the size, a copy in new memory, whether two are alike; append of numbers to a row of a call's own. Nothing that was there is written. -/
import Derived.Test.YtioldepgoodipaaGreatNums
import Derived.WalkSpells
import Derived.Lib.SmallJoins
import Derived.BigQuiet
import Derived.Laws.AppendOwnNone
namespace Go.Proofs.YtioldepgoodipaaGreat
open Go.RowKit Go.ChangeShapes Go.WideShapes Go.ChangeAt Go.Joins
set_option linter.unusedVariables false

section
variable {P : Program} {w : World}
theorem run_append_none_nums (base : Nat) (t ty e : TypeId) (i : TypeInfo) (size : Nat) (ht : P.underlying t = some (.slice e)) (hi : P.info? e = some i)
    (v : Value) (n : Nat) (xs : List Value) (hown : w.ownsRow base e size v n xs) (c : Nat) :
    (Builtin.append_ #[t, t] ty #[v, .slice none 0 c]).run P w = .ok v w := by
  rcases hown.2 with ⟨rfl, rfl⟩ | ⟨g, cap, cur, rfl, _, _, hnc, _⟩
  · simp [Builtin.append_, run_underlying ht, sizeOf, typeInfo, hi, Builtin.lenOf, Builtin.firstCells]
  · simp [Builtin.append_, run_underlying ht, sizeOf, typeInfo, hi, Builtin.lenOf, Builtin.firstCells, hnc, storeCells]
/-- append of a row of numbers to a row of the call's own. -/
theorem wpList_append_nums {ops : Array Oper} {rest : List Oper} {o : Oper} {a : Act} {Q : Exit → Act → World → Prop} (hgd : o.guard = none) (s x : Operand) (t : TypeId)
    (ho : o.op = .call { callee := .builtin .append, args := #[s, x], argTypes := #[t, t] })
    (base : Nat) (e : TypeId) (i : TypeInfo) (z : Value) (bytes : Nat) (ht : P.underlying t = some (.slice e)) (hi : P.info? e = some i) (hz : i.zero = some z)
    (hsize : i.size = 1) (hby : i.bytes = bytes) (hzs : z.cells.size = 1)
    (v : Value) (n : Nat) (xs : List Value) (hs : a.eval s = v) (hown : w.ownsRow base e 1 v n xs)
    (ad : Option Addr) (c : Nat) (l : List Int) (m : Nat) (hm : l.length = m) (hx : a.eval x = .slice ad m c) (hin : NumsIn w ad l)
    (h63 : n + m ≤ maxLen) (hbytes : (n + m) * bytes ≤ 140737488355328) (hbase : base ≤ w.heap.size)
    (h : ∀ v' w', w'.ownsRow base e 1 v' (n + m) (xs ++ ncells l) → w.grownBy w' v.ownBlock → wpList P ops Q rest (a.put o.dst v') w') : wpList P ops Q (o :: rest) a w := by
  subst hm
  rcases ad with _ | ad
  · have hl : l = [] := by
      rcases hin with h | ⟨b, o', h', _⟩
      · exact h
      · cases h'
    subst hl
    refine wpList_plain hgd fun K hK => ?_
    have hrun := run_append_none_nums (P := P) (w := w) base t o.type e i 1 ht hi v n xs hown c
    unfold Oper.wp
    simp [execOp, ho, resolve, invoke, builtin, hs, hx, hrun, Result.andThen]
    exact hK _ _ (h v w (by simpa [ncells] using hown) (World.grownBy.refl _ _))
  · refine wpList_append_own w hgd s x t ho base e i z 1 bytes ht hi hz hsize hby hzs (by decide) v n xs hs hown ad l.length c (ncells l) hx (by simp [ncells]) ?_ (ncells_one l) h63 hbytes hbase fun v' w' h1 h2 _ => h v' w' h1 h2
    rcases hin with rfl | ⟨b, o', h', _, hc⟩
    · intro j u hj
      simp [ncells] at hj
    · cases h'
      exact nums_cells hc
end

theorem own_row1 {w : World} {base : Nat} {e : TypeId} {g n : Nat} {xs : List Value} (h : w.ownsRow base e 1 (.slice (some ⟨g, 0, none⟩) n n) n xs) :
    ∀ j, j < n → (w.cell? ⟨g, j, none⟩).isSome = true ∧ w.frozen? ⟨g, j, none⟩ = false := by
  rcases h.2 with ⟨h', _⟩ | ⟨g', cap', cur, h', _, hg, _, _, hc, _⟩
  · simp at h'
  · simp only [Value.slice.injEq, Option.some.injEq, Addr.mk.injEq, and_true, true_and] at h'
    obtain ⟨rfl, rfl⟩ := h'
    intro j hj
    refine ⟨?_, frozen_of_row w g j cur e hg⟩
    rw [cell_of_row w g j cur e (0, 0) hg]
    rw [Array.getElem?_eq_getElem (by omega)]
    rfl
theorem own_lt1 {w : World} {base : Nat} {e : TypeId} {g n c : Nat} {xs : List Value} (h : w.ownsRow base e 1 (.slice (some ⟨g, 0, none⟩) n c) n xs) : g < w.heap.size := (World.ownsRow.lt h g rfl).2
theorem NumsTo.info : (Tryz.prog.info? 2).map (fun i => (i.zero, i.size, i.bytes)) = some (some (.int .i64 0), 1, 8) := by kernel_rfl
theorem szInt64S_any (a : Option Addr) (cap n : Nat) (w : World) (hn : n ≤ maxLen) :
    Calls Tryz.prog 74 #[.slice a n cap, .int .i64 1048576] w fun e w' => ∃ m : Int, e = .returned (.int .i64 m) ∧ (0 ≤ m → n ≤ 1048576) ∧ w' = w := by
  unfold maxLen at hn
  have hw : IntKind.i64.wrap (1048576 - (n : Int)) = 1048576 - n := IntWalk.i64_in _ (by omega)
  by_cases hbig : 1048576 < n
  · have hd : decide ((1048576 : Int) - (n : Int) < 0) = true := decide_eq_true (by omega)
    go_enter Tryz.func74, Tryz.ntmps74
    go_wp2_with fail
    go_ret
    exact ⟨-1, rfl, fun q => absurd q (by omega), rfl⟩
  · have hd : decide ((1048576 : Int) - (n : Int) < 0) = false := decide_eq_false (by omega)
    go_enter Tryz.func74, Tryz.ntmps74
    go_wp2_with fail
    go_ret
    exact ⟨_, rfl, fun _ => by omega, rfl⟩
set_option maxHeartbeats 2000000 in
theorem toInt64S_new (a : Option Addr) (cap : Nat) (l : List Int) (w : World) (h : NumsIn w a l) (hlen : l.length ≤ 1048576) :
    Calls Tryz.prog 93 #[.slice a l.length cap] w fun e w' => e = .returned (.slice (some ⟨w.heap.size, 0, none⟩) l.length l.length) ∧ NumsNew w.heap.size w'.heap.size w' (some ⟨w.heap.size, 0, none⟩) l ∧ Below w.heap.size w w' := by
  obtain ⟨i0, hi, hz0, hz1, hz2⟩ := info_parts NumsTo.info
  obtain ⟨N, hN⟩ : ∃ N, l.length = N := ⟨_, rfl⟩
  have HN := Lib.hid hN
  have HH := Lib.hid h
  rw [hN] at hlen ⊢
  clear hN h
  go_enter Tryz.func93, Tryz.ntmps93
  go_wp2_with (at_make; refine wpList_make_full _ rfl (.tmp 6) (.tmp 6) 24 rfl w.heap.size 2 i0 (.int .i64 0) 1 Tryz.underlying24 hi hz0 hz1 .i64 .i64 (N : Int) (N : Int) N (by rfl) (by rfl) (by omega) (by omega) (by rw [hz2]; omega) (by unfold maxLen; omega) (Nat.le_refl _) ?_; intro w1 hown hgrow)
  have HB0 := Lib.hid (own_row1 hown)
  have hgz := own_lt1 hown
  have hb1 : Below w.heap.size w w1 := (Below.refl _ _).grown hgrow (Nat.le_refl _) (fun _ h => by cases h)
  clear hown hgrow
  rcases Nat.eq_zero_or_pos N with hN0 | hN0
  · subst hN0
    have hl : l = [] := List.eq_nil_of_length_eq_zero HN.out
    refine wp_loop_rounds 1 ?_
    rw [rounds_succ]; go_wp2
    go_ret
    exact ⟨rfl, .inl (by first | exact hl | rfl), hb1⟩
  obtain ⟨b, o, rfl, hlt, hc⟩ := HH.out.at (by have := HN.out; omega)
  have HI := Lib.hid hc
  clear hc HH
  go_loopw [4] (fun i wr => ∃ k : Nat, i = .int .i64 (k : Int) ∧ k ≤ N ∧ Below w.heap.size w wr ∧ w.heap.size < wr.heap.size ∧
    (∀ j, j < k → wr.cell? ⟨w.heap.size, j, none⟩ = some (.int .i64 (numAt l j))) ∧
    (∀ j, j < N → (wr.cell? ⟨w.heap.size, j, none⟩).isSome = true ∧ wr.frozen? ⟨w.heap.size, j, none⟩ = false)) (fun i _ => N - (intOf i).toNat)
  case atStart => exact ⟨0, rfl, by omega, hb1, hgz, fun j hj => absurd hj (by omega), HB0.out⟩
  case round =>
    obtain ⟨k, rfl, hk, hb, hsz, hdone, hroom⟩ := hrel
    have HD := Lib.hid hdone
    have HR := Lib.hid hroom
    clear hdone hroom
    by_cases hkn : k < N
    · have hkl : k < l.length := by have := HN.out; omega
      have d0 := (hb.cell (p := ⟨b, _, none⟩) hlt).trans (HI.out k _ (numAt_some hkl))
      obtain ⟨x, hx⟩ : ∃ x, numAt l k = x := ⟨_, rfl⟩
      rw [hx] at d0
      have HX := Lib.hid hx
      clear hx
      obtain ⟨u0, e0⟩ := Option.isSome_iff_exists.1 (HR.out k (by omega)).1
      have g0 := (HR.out k (by omega)).2
      have hi1 : (0 : Int) ≤ (k : Int) := by omega
      have hi2 : (k : Int) < (N : Int) := by omega
      go_wp2
      go_roundw
      case rel =>
        refine ⟨k + 1, by go_num, by omega, hb.setCell (by simp) _, by simpa using hsz, fun j hj => ?_, fun j hj => ?_⟩
        · rcases Nat.lt_or_ge j k with h | h
          · rw [World.cell?_setCell_other _ _ _ _ (by simp <;> omega)]
            exact HD.out j h
          · obtain rfl : j = k := by omega
            rw [HX.out]
            exact World.cell?_setCell_same _ _ _ e0
        · refine ⟨?_, by rw [World.frozen?_setCell]; exact (HR.out j hj).2⟩
          by_cases e : j = k
          · subst e
            rw [World.cell?_setCell_same _ _ _ e0]
            rfl
          · rw [World.cell?_setCell_other _ _ _ _ (by simp <;> omega)]
            exact (HR.out j hj).1
      case measure => simp [intOf]; omega
    · have hge : N ≤ k := by omega
      go_wp2
      go_ret
      exact ⟨rfl, .inr ⟨w.heap.size, 0, rfl, Nat.le_refl _, hsz, hsz, fun j hj => by
        have := (HR.out j (by have := HN.out; omega)).2
        simpa using this, fun i x hx => by
        have hi : i < l.length := (List.getElem?_eq_some_iff.1 hx).1
        have := HD.out i (by have := HN.out; omega)
        rw [numAt_some hi] at hx
        obtain rfl := Option.some.inj hx
        simpa using this⟩, hb⟩
set_option maxHeartbeats 2000000 in
theorem eqInt64S_same (a a' : Option Addr) (cap cap' : Nat) (l : List Int) (w : World) (h : NumsIn w a l) (h' : NumsIn w a' l) (hlen : l.length ≤ 1048576) :
    Calls Tryz.prog 108 #[.slice a l.length cap, .slice a' l.length cap'] w fun e w' => e = .returned (.bool true) ∧ Below w.heap.size w w' := by
  obtain ⟨N, hN⟩ : ∃ N, l.length = N := ⟨_, rfl⟩
  have HN := Lib.hid hN
  rcases Nat.eq_zero_or_pos N with hN0 | hN0
  · rw [hN]
    subst hN0
    clear hN hlen h h'
    go_enter Tryz.func108, Tryz.ntmps108
    go_wp2
    refine wp_loop_rounds 1 ?_
    rw [rounds_succ]; go_wp2
    go_ret
    exact ⟨rfl, Below.refl _ _⟩
  obtain ⟨b, o, rfl, hlt, hc⟩ := h.at (by omega)
  obtain ⟨b', o', rfl, hlt', hc'⟩ := h'.at (by omega)
  have HI := Lib.hid hc
  have HI' := Lib.hid hc'
  clear hc hc' h h'
  rw [hN] at hlen ⊢
  clear hN
  go_enter Tryz.func108, Tryz.ntmps108
  go_wp2
  go_loopw [5] (fun i wr => ∃ k : Nat, i = .int .i64 (k : Int) ∧ k ≤ N ∧ Below w.heap.size w wr) (fun i _ => N - (intOf i).toNat)
  case atStart => exact ⟨0, rfl, by omega, Below.refl _ _⟩
  case round =>
    obtain ⟨k, rfl, hk, hb⟩ := hrel
    by_cases hkn : k < N
    · have hkl : k < l.length := by have := HN.out; omega
      have d0 := (hb.cell (p := ⟨b, _, none⟩) hlt).trans (HI.out k _ (numAt_some hkl))
      have d1 := (hb.cell (p := ⟨b', _, none⟩) hlt').trans (HI'.out k _ (numAt_some hkl))
      have hi1 : (0 : Int) ≤ (k : Int) := by omega
      have hi2 : (k : Int) < (N : Int) := by omega
      generalize numAt l k = x at *
      go_wp2_with fail
      go_quiet (fail)
      go_wp2
      go_roundw
      case rel => exact ⟨k + 1, by go_num, by omega, ⟨hb.os, hb.tape, hb.output, hb.size, hb.block⟩⟩
      case measure => simp [intOf]; omega
    · go_wp2
      go_ret
      exact ⟨rfl, hb⟩
end Go.Proofs.YtioldepgoodipaaGreat
