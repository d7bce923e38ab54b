/- The laws' own szCanS, toCanS and eqCanS: the size, a copy in new memory, whether two are alike. Nothing that was there is written. -/
import Derived.Test.YtioldepgoodipaaGreatCans
import Derived.Test.YtioldepgoodipaaGreatTo
import Derived.Test.YtioldepgoodipaaGreatNews
import Derived.Deep.RegionHeld3
namespace Go.Proofs.YtioldepgoodipaaGreat
open Go.RowKit Go.ChangeShapes Go.WideShapes Go.ChangeAt Go.Joins
set_option linter.unusedVariables false

/-- What szCanS leaves: n bytes less, and one for each; -1 once it is below 0. -/
def szL : List (Int × ByteArray) → Int → Int
  | [], m => m
  | x :: l, m => if m - x.2.size < 0 then -1 else szL l (m - x.2.size)
theorem szL_le (l : List (Int × ByteArray)) (m : Int) (h : 0 ≤ m) : szL l m ≤ m ∧ -1 ≤ szL l m := by
  induction l generalizing m with
  | nil => exact ⟨Int.le_refl _, by show -1 ≤ m; omega⟩
  | cons x l ih =>
    unfold szL
    split
    · omega
    · have := ih (m - x.2.size) (by omega)
      omega

set_option maxHeartbeats 1000000 in
theorem szCanS_any (a : Option Addr) (cap : Nat) (l : List (Int × ByteArray)) (w : World) (h : CansIn w a l) (hok : CansOk l) (hlen : l.length ≤ maxLen) :
    Calls Tryz.prog 75 #[.slice a l.length cap, .int .i64 1048576] w fun e w' => ∃ m : Int, e = .returned (.int .i64 m) ∧ m ≤ 1048576 ∧ (0 ≤ m → l.length ≤ 1048576) ∧ Below w.heap.size w w' := by
  unfold maxLen at hlen
  by_cases hbig : 1048576 < l.length
  · have hd : decide ((1048576 : Int) - (l.length : Int) < 0) = true := decide_eq_true (by omega)
    have hw : IntKind.i64.wrap (1048576 - (l.length : Int)) = 1048576 - l.length := IntWalk.i64_in _ (by omega)
    go_enter Tryz.func75, Tryz.ntmps75
    go_wp2_with fail
    go_ret
    exact ⟨-1, rfl, by omega, fun q => absurd q (by omega), Below.refl _ _⟩
  · have hd : decide ((1048576 : Int) - (l.length : Int) < 0) = false := decide_eq_false (by omega)
    have hw : IntKind.i64.wrap (1048576 - (l.length : Int)) = 1048576 - l.length := IntWalk.i64_in _ (by omega)
    obtain ⟨M, hM⟩ : ∃ M : Int, (1048576 : Int) - (l.length : Int) = M := ⟨_, rfl⟩
    rw [hM] at hd hw
    have hM1 : 0 ≤ M ∧ M ≤ 1048576 := by omega
    rcases h with rfl | ⟨b, o, rfl, hlt, hc⟩
    · go_enter Tryz.func75, Tryz.ntmps75
      go_wp2
      refine wp_loop_rounds 1 ?_
      rw [rounds_succ]; go_wp2
      go_ret
      exact ⟨_, rfl, by omega, fun _ => by simp, Below.refl _ _⟩
    · have HI := Lib.hid hc
      have HK := Lib.hid hok
      clear hc hok
      obtain ⟨N, hN⟩ : ∃ N, l.length = N := ⟨_, rfl⟩
      have HN := Lib.hid hN
      rw [hN] at hbig hM ⊢
      clear hN hlen
      go_enter Tryz.func75, Tryz.ntmps75
      go_wp2
      go_loopw [1, 5] (fun u i wr => ∃ (k : Nat) (m : Int), i = .int .i64 (k : Int) ∧ u = .int .i64 m ∧ k ≤ N ∧ 0 ≤ m ∧ m ≤ 1048576 ∧ Below w.heap.size w wr) (fun _ i _ => N - (intOf i).toNat)
      case atStart => exact ⟨0, M, rfl, rfl, by omega, hM1.1, hM1.2, Below.refl _ _⟩
      case round =>
        obtain ⟨k, m, rfl, rfl, hk, hm0, hm1, hb⟩ := hrel
        by_cases hkn : k < N
        · have hkl : k < l.length := by have := HN.out; omega
          have d0 := (hb.cell (p := ⟨b, _, none⟩) hlt).trans (HI.out k _ (canAt_some hkl)).1
          have d1 := (hb.cell (p := ⟨b, _, none⟩) hlt).trans (HI.out k _ (canAt_some hkl)).2
          have hg := canAt_ok HK.out hkl
          have hbs := hb.size
          generalize canAt l k = x at *
          obtain ⟨n, s⟩ := x
          simp only at d0 d1 hg
          have HC := fun W => Lib.hid (szCan_any n s m W hm0 hm1 hg.2)
          by_cases hneg : m - s.size < 0
          · rw [if_pos hneg] at HC
            have e0 : decide ((-1 : Int) < 0) = true := by decide
            go_wp2_with (go_at_call 19; refine (HC _).out.mono ?_; rintro e w1 ⟨rfl, h1⟩)
            go_ret
            exact ⟨-1, rfl, by omega, fun q => absurd q (by omega), hb.trans (h1.mono hbs)⟩
          · rw [if_neg hneg] at HC
            obtain ⟨m', hm'⟩ : ∃ m' : Int, m - s.size = m' := ⟨_, rfl⟩
            rw [hm'] at HC
            have hm2 : 0 ≤ m' ∧ m' ≤ 1048576 := by omega
            clear hm' hneg
            have e0 : decide (m' < 0) = false := decide_eq_false (by omega)
            go_wp2_with (go_at_call 19; refine (HC _).out.mono ?_; rintro e w1 ⟨rfl, h1⟩)
            go_roundw
            case rel => exact ⟨k + 1, m', by go_num, rfl, by omega, hm2.1, hm2.2, hb.trans (h1.mono hbs)⟩
            case measure => simp [intOf]; omega
        · go_wp2
          go_ret
          exact ⟨m, rfl, hm1, fun _ => by omega, hb⟩

theorem CansTo.info : (Tryz.prog.info? 66).map (fun i => (i.zero, i.size, i.bytes)) = some (some (.agg #[.int .i64 0, .string ByteArray.empty]), 2, 24) := by kernel_rfl
theorem own_row2 {w : World} {base : Nat} {e : TypeId} {g n : Nat} {xs : List Value} (h : w.ownsRow base e 2 (.slice (some ⟨g, 0, none⟩) n n) n xs) :
    ∀ j, j < n * 2 → (w.cell? ⟨g, j, none⟩).isSome = true ∧ w.frozen? ⟨g, j, none⟩ = false := by
  rcases h.2 with ⟨h', _⟩ | ⟨g', cap', cur, h', _, hg, _, _, hc, _⟩
  · simp at h'
  · simp only [Value.slice.injEq, Option.some.injEq, Addr.mk.injEq, and_true, true_and] at h'
    obtain ⟨rfl, rfl⟩ := h'
    intro j hj
    refine ⟨?_, frozen_of_row w g j cur e hg⟩
    rw [cell_of_row w g j cur e (0, 0) hg]
    rw [Array.getElem?_eq_getElem (by omega)]
    rfl

theorem World.ownsRow.form' {w : World} {base : Nat} {e : TypeId} {size : Nat} {v : Value} {n : Nat} {xs : List Value} (h : w.ownsRow base e size v n xs) (hn : 0 < n) :
    ∃ g cap, v = .slice (some ⟨g, 0, none⟩) n cap ∧ base ≤ g ∧ g < w.heap.size := by
  obtain ⟨g, cap, hv⟩ := ownsRow_form h hn
  subst hv
  have := World.ownsRow.lt h g rfl
  exact ⟨g, cap, rfl, this.1, this.2⟩

theorem set2_same {W : World} {g k : Nat} {u0 u1 v0 v1 : Value} (h0 : W.cell? ⟨g, k, none⟩ = some u0) (h1 : W.cell? ⟨g, k + 1, none⟩ = some u1) :
    ((W.setCell ⟨g, k, none⟩ v0).setCell ⟨g, k + 1, none⟩ v1).cell? ⟨g, k, none⟩ = some v0 ∧ ((W.setCell ⟨g, k, none⟩ v0).setCell ⟨g, k + 1, none⟩ v1).cell? ⟨g, k + 1, none⟩ = some v1 := by
  constructor
  · rw [World.cell?_setCell_other _ _ _ _ (by simp), World.cell?_setCell_same _ _ _ h0]
  · rw [World.cell?_setCell_same _ _ _ (u := u1) (by rw [World.cell?_setCell_other _ _ _ _ (by simp)]; exact h1)]
theorem set2_other {W : World} {g k j : Nat} {v0 v1 : Value} (h0 : k ≠ j) (h1 : k + 1 ≠ j) :
    ((W.setCell ⟨g, k, none⟩ v0).setCell ⟨g, k + 1, none⟩ v1).cell? ⟨g, j, none⟩ = W.cell? ⟨g, j, none⟩ := by
  rw [World.cell?_setCell_other _ _ _ _ (by simp), World.cell?_setCell_other _ _ _ _ (by simp)]
theorem set2_some {W : World} {g k j : Nat} {u0 u1 v0 v1 : Value} (h0 : W.cell? ⟨g, k, none⟩ = some u0) (h1 : W.cell? ⟨g, k + 1, none⟩ = some u1) (h : (W.cell? ⟨g, j, none⟩).isSome = true) :
    (((W.setCell ⟨g, k, none⟩ v0).setCell ⟨g, k + 1, none⟩ v1).cell? ⟨g, j, none⟩).isSome = true := by
  by_cases e0 : k = j
  · subst e0
    rw [(set2_same h0 h1).1]
    rfl
  by_cases e1 : k + 1 = j
  · subst e1
    rw [(set2_same h0 h1).2]
    rfl
  rw [set2_other e0 e1]
  exact h

set_option maxHeartbeats 2000000 in
theorem toCanS_new (a : Option Addr) (cap : Nat) (l : List (Int × ByteArray)) (w : World) (h : CansIn w a l) (hlen : l.length ≤ 1048576) :
    Calls Tryz.prog 94 #[.slice a l.length cap] w fun e w' => e = .returned (.slice (some ⟨w.heap.size, 0, none⟩) l.length l.length) ∧ NewIn w.heap.size w'.heap.size w' (some ⟨w.heap.size, 0, none⟩) l ∧ Below w.heap.size w w' := by
  obtain ⟨i0, hi, hz0, hz1, hz2⟩ := info_parts CansTo.info
  obtain ⟨N, hN⟩ : ∃ N, l.length = N := ⟨_, rfl⟩
  have HN := Lib.hid hN
  have HH := Lib.hid h
  rw [hN] at hlen ⊢
  clear hN h
  go_enter Tryz.func94, Tryz.ntmps94
  go_wp2_with (at_make; refine wpList_make_full _ rfl (.tmp 6) (.tmp 6) 41 rfl w.heap.size 66 i0 (.agg #[.int .i64 0, .string ByteArray.empty]) 2 Tryz.underlying41 hi hz0 hz1 .i64 .i64 (N : Int) (N : Int) N (by rfl) (by rfl) (by omega) (by omega) (by rw [hz2]; omega) (by unfold maxLen; omega) (Nat.le_refl _) ?_; intro w1 hown hgrow)
  have HB0 := Lib.hid (own_row2 hown)
  have hb1 : Below w.heap.size w w1 := (Below.refl _ _).grown hgrow (Nat.le_refl _) (fun _ h => by cases h)
  have hz : Hid (N = 0 ∨ w.heap.size < w1.heap.size) := Lib.hid (by
    rcases Nat.eq_zero_or_pos N with h | h
    · exact .inl h
    · right
      obtain ⟨g, cap', hv, _, hlt⟩ := World.ownsRow.form' hown h
      simp at hv
      omega)
  clear hown hgrow
  rcases Nat.eq_zero_or_pos N with hN0 | hN0
  · subst hN0
    have hl : l = [] := List.eq_nil_of_length_eq_zero HN.out
    refine wp_loop_rounds 1 ?_
    rw [rounds_succ]; go_wp2
    go_ret
    exact ⟨rfl, .inl (by first | exact hl | rfl), hb1⟩
  have hgz : w.heap.size < w1.heap.size := by have := hz.out; omega
  obtain ⟨b, o, rfl, hlt, hc⟩ : ∃ b o, a = some ⟨b, o, none⟩ ∧ b < w.heap.size ∧ ∀ (i : Nat) x, l[i]? = some x → w.cell? ⟨b, o + i * 2, none⟩ = some (.int .i64 x.1) ∧ w.cell? ⟨b, o + i * 2 + 1, none⟩ = some (.string x.2) := by
    rcases HH.out with h | h
    · have := HN.out
      rw [h] at this
      simp at this
      omega
    · exact h
  have HI := Lib.hid hc
  clear hc hz HH
  go_loopw [4] (fun i wr => ∃ k : Nat, i = .int .i64 (k : Int) ∧ k ≤ N ∧ Below w.heap.size w wr ∧ w.heap.size < wr.heap.size ∧
    (∀ j, j < k → wr.cell? ⟨w.heap.size, j * 2, none⟩ = some (.int .i64 (canAt l j).1) ∧ wr.cell? ⟨w.heap.size, j * 2 + 1, none⟩ = some (.string (canAt l j).2)) ∧
    (∀ j, j < N * 2 → (wr.cell? ⟨w.heap.size, j, none⟩).isSome = true ∧ wr.frozen? ⟨w.heap.size, j, none⟩ = false)) (fun i _ => N - (intOf i).toNat)
  case atStart => exact ⟨0, rfl, by omega, hb1, hgz, fun j hj => absurd hj (by omega), HB0.out⟩
  case round =>
    obtain ⟨k, rfl, hk, hb, hsz, hdone, hroom⟩ := hrel
    have HD := Lib.hid hdone
    have HR := Lib.hid hroom
    clear hdone hroom
    by_cases hkn : k < N
    · have hkl : k < l.length := by have := HN.out; omega
      have d0 := (hb.cell (p := ⟨b, _, none⟩) hlt).trans (HI.out k _ (canAt_some hkl)).1
      have d1 := (hb.cell (p := ⟨b, _, none⟩) hlt).trans (HI.out k _ (canAt_some hkl)).2
      obtain ⟨x, hx⟩ : ∃ x, canAt l k = x := ⟨_, rfl⟩
      rw [hx] at d0 d1
      have HX := Lib.hid hx
      clear hx
      obtain ⟨n, s⟩ := x
      simp only at d0 d1
      obtain ⟨u0, e0⟩ := Option.isSome_iff_exists.1 (HR.out (k * 2) (by omega)).1
      obtain ⟨u1, e1⟩ := Option.isSome_iff_exists.1 (HR.out (k * 2 + 1) (by omega)).1
      have g0 := (HR.out (k * 2) (by omega)).2
      have g1 := (HR.out (k * 2 + 1) (by omega)).2
      go_wp2_with (go_at_call 21; refine (toCan_any _ _ _).mono ?_; rintro e w2 ⟨rfl, h2⟩; have p0 := (h2.cell (p := ⟨w.heap.size, k * 2, none⟩) hsz).trans e0; have p1 := (h2.cell (p := ⟨w.heap.size, k * 2 + 1, none⟩) hsz).trans e1; have r0 := (h2.frozen (p := ⟨w.heap.size, k * 2, none⟩) hsz).trans g0; have r1 := (h2.frozen (p := ⟨w.heap.size, k * 2 + 1, none⟩) hsz).trans g1)
      go_roundw
      case rel =>
        refine ⟨k + 1, by go_num, by omega, ((hb.trans (h2.mono (Nat.le_of_lt hsz))).setCell (by simp) _).setCell (by simp) _, by have := h2.size; simp; omega, fun j hj => ?_, fun j hj => ?_⟩
        · rcases Nat.lt_or_ge j k with h | h
          · rw [set2_other (by omega) (by omega), set2_other (by omega) (by omega)]
            exact ⟨(h2.cell (p := ⟨w.heap.size, _, none⟩) hsz).trans (HD.out j h).1, (h2.cell (p := ⟨w.heap.size, _, none⟩) hsz).trans (HD.out j h).2⟩
          · obtain rfl : j = k := by omega
            rw [HX.out]
            exact set2_same p0 p1
        · refine ⟨set2_some p0 p1 ?_, ?_⟩
          · rw [h2.cell (p := ⟨w.heap.size, j, none⟩) hsz]
            exact (HR.out j hj).1
          · rw [World.frozen?_setCell, World.frozen?_setCell, h2.frozen (p := ⟨w.heap.size, j, none⟩) hsz]
            exact (HR.out j hj).2
      case measure => simp [intOf]; omega
    · have hge : N ≤ k := by omega
      go_wp2
      go_ret
      exact ⟨rfl, .inr ⟨w.heap.size, 0, rfl, Nat.le_refl _, hsz, hsz, fun j hj => by
        have := (HR.out j (by have := HN.out; omega)).2
        simpa using this, fun i x hx => by
        have hi : i < l.length := (List.getElem?_eq_some_iff.1 hx).1
        have := HD.out i (by have := HN.out; omega)
        rw [canAt_some hi] at hx
        obtain rfl := Option.some.inj hx
        simpa using this⟩, hb⟩

theorem toCanS_any (a : Option Addr) (cap : Nat) (l : List (Int × ByteArray)) (w : World) (h : CansIn w a l) (hlen : l.length ≤ 1048576) :
    Calls Tryz.prog 94 #[.slice a l.length cap] w fun e w' => e = .returned (.slice (some ⟨w.heap.size, 0, none⟩) l.length l.length) ∧ CansIn w' (some ⟨w.heap.size, 0, none⟩) l ∧ Below w.heap.size w w' :=
  (toCanS_new a cap l w h hlen).mono fun _ _ ⟨h1, h2, h3⟩ => ⟨h1, h2.cans, h3⟩

/-- Four cells are there, and nothing that was there has turned. -/
def FourS (wr : World) (p0 p1 p2 p3 : Addr) (v0 v1 v2 v3 : Value) (W : World) : Prop :=
  (W.cell? p0 = some v0 ∧ W.cell? p1 = some v1 ∧ W.cell? p2 = some v2 ∧ W.cell? p3 = some v3) ∧ Below wr.heap.size wr W
theorem four_first {wr : World} {p0 p1 p2 p3 : Addr} {v0 v1 v2 v3 : Value} (h0 : wr.cell? p0 = some v0) (h1 : wr.cell? p1 = some v1) (h2 : wr.cell? p2 = some v2) (h3 : wr.cell? p3 = some v3) : FourS wr p0 p1 p2 p3 v0 v1 v2 v3 wr.drew :=
  ⟨⟨h0, h1, h2, h3⟩, (Below.refl _ _).drew⟩
theorem four_call {wr W W' : World} {p0 p1 p2 p3 : Addr} {v0 v1 v2 v3 : Value} (l0 : p0.block < wr.heap.size) (l1 : p1.block < wr.heap.size) (l2 : p2.block < wr.heap.size) (l3 : p3.block < wr.heap.size) (h : FourS wr p0 p1 p2 p3 v0 v1 v2 v3 W) (hb : Below W.heap.size W W') : FourS wr p0 p1 p2 p3 v0 v1 v2 v3 W' :=
  ⟨⟨(hb.cell (Nat.lt_of_lt_of_le l0 h.2.size)).trans h.1.1, (hb.cell (Nat.lt_of_lt_of_le l1 h.2.size)).trans h.1.2.1, (hb.cell (Nat.lt_of_lt_of_le l2 h.2.size)).trans h.1.2.2.1, (hb.cell (Nat.lt_of_lt_of_le l3 h.2.size)).trans h.1.2.2.2⟩, h.2.trans (hb.mono h.2.size)⟩

set_option maxHeartbeats 2000000 in
theorem eqCanS_same (a a' : Option Addr) (cap cap' : Nat) (l : List (Int × ByteArray)) (w : World) (h : CansIn w a l) (h' : CansIn w a' l) (hlen : l.length ≤ 1048576) :
    Calls Tryz.prog 109 #[.slice a l.length cap, .slice a' l.length cap'] w fun e w' => e = .returned (.bool true) ∧ Below w.heap.size w w' := by
  obtain ⟨N, hN⟩ : ∃ N, l.length = N := ⟨_, rfl⟩
  have HN := Lib.hid hN
  rcases Nat.eq_zero_or_pos N with hN0 | hN0
  · rw [hN]
    subst hN0
    clear hN hlen h h'
    go_enter Tryz.func109, Tryz.ntmps109
    go_wp2
    refine wp_loop_rounds 1 ?_
    rw [rounds_succ]; go_wp2
    go_ret
    exact ⟨rfl, Below.refl _ _⟩
  rcases h with rfl | ⟨b, o, rfl, hlt, hc⟩
  · simp at hN
    omega
  rcases h' with rfl | ⟨b', o', rfl, hlt', hc'⟩
  · simp at hN
    omega
  have HI := Lib.hid hc
  have HI' := Lib.hid hc'
  clear hc hc'
  rw [hN] at hlen ⊢
  clear hN
  go_enter Tryz.func109, Tryz.ntmps109
  go_wp2
  go_loopw [5] (fun i wr => ∃ k : Nat, i = .int .i64 (k : Int) ∧ k ≤ N ∧ Below w.heap.size w wr) (fun i _ => N - (intOf i).toNat)
  case atStart => exact ⟨0, rfl, by omega, Below.refl _ _⟩
  case round =>
    obtain ⟨k, rfl, hk, hb⟩ := hrel
    by_cases hkn : k < N
    · have hkl : k < l.length := by have := HN.out; omega
      have d0 := (hb.cell (p := ⟨b, _, none⟩) hlt).trans (HI.out k _ (canAt_some hkl)).1
      have d1 := (hb.cell (p := ⟨b, _, none⟩) hlt).trans (HI.out k _ (canAt_some hkl)).2
      have d2 := (hb.cell (p := ⟨b', _, none⟩) hlt').trans (HI'.out k _ (canAt_some hkl)).1
      have d3 := (hb.cell (p := ⟨b', _, none⟩) hlt').trans (HI'.out k _ (canAt_some hkl)).2
      have hbs := hb.size
      have hi1 : (0 : Int) ≤ (k : Int) := by omega
      have hi2 : (k : Int) < (N : Int) := by omega
      generalize canAt l k = x at *
      obtain ⟨n, s⟩ := x
      simp only at d0 d1 d2 d3
      go_wp2_with fail
      go_region_held3 (fun W => (W.cell? ⟨b, o + k * 2, none⟩ = some (.int .i64 n) ∧ W.cell? ⟨b, o + k * 2 + 1, none⟩ = some (.string s) ∧ W.cell? ⟨b', o' + k * 2, none⟩ = some (.int .i64 n) ∧ W.cell? ⟨b', o' + k * 2 + 1, none⟩ = some (.string s)) ∧ Below wr.heap.size wr W)
        (first | assumption | exact four_first d0 d1 d2 d3 | exact four_call (by show b < _; omega) (by show b < _; omega) (by show b' < _; omega) (by show b' < _; omega) (by assumption) (by assumption))
        (first | (go_at_call 173; refine (eqCan_same _ _ _).mono ?_; rintro e w1 ⟨rfl, h1⟩))
      go_wp2
      go_roundw
      case rel => exact ⟨k + 1, by go_num, by omega, hb.drew.trans (h1.mono (show w.heap.size ≤ wr.heap.size from hbs))⟩
      case measure => simp [intOf]; omega
    · go_wp2
      go_ret
      exact ⟨rfl, hb⟩
end Go.Proofs.YtioldepgoodipaaGreat
