/- Rows of Gots: their size, a copy, alike, marked, read again by the laws' own functions. Nothing that was there is written, but what is marked. -/
import Derived.Test.YtioldepgoodipaaGreatRsOwn
import Derived.Test.YtioldepgoodipaaGreatQuiet
import Derived.Test.YtioldepgoodipaaGreatNumsTo
import Derived.Test.YtioldepgoodipaaGreatMark
namespace Go.Proofs.YtioldepgoodipaaGreat
open Go.RowKit
set_option linter.unusedVariables false

/-- One of them. -/
structure Gt where
  s : Int
  p : Int
  dt : ByteArray
/-- Its cells. -/
def gtL (x : Gt) : List Value := [.int .i64 x.s, .int .i64 x.p, .string x.dt]
theorem gtL_len (x : Gt) : (gtL x).length = 3 := rfl
theorem gtL_one (x : Gt) : ∀ u ∈ gtL x, u.oneCell' = true := by
  intro u hu
  simp [gtL] at hu
  rcases hu with rfl | rfl | rfl <;> rfl
def gtAt (l : List Gt) (i : Nat) : Gt := l[i]?.getD ⟨0, 0, ByteArray.empty⟩
theorem gtAt_some {l : List Gt} {i : Nat} (h : i < l.length) : l[i]? = some (gtAt l i) := by
  unfold gtAt
  rw [List.getElem?_eq_getElem h]
  rfl
set_option maxRecDepth 100000 in
theorem szGot_any (x : Gt) (m : Int) (w : World) (h0 : 0 ≤ m) (h1 : m ≤ 1048576) (hx : x.dt.size ≤ maxLen) :
    Calls Tryz.prog 77 #[.agg (gtL x).toArray, .int .i64 m] w fun e w' => e = .returned (.int .i64 (if m - x.dt.size < 0 then -1 else m - x.dt.size)) ∧ Below w.heap.size w w' := by
  obtain ⟨s, p, dt⟩ := x
  unfold gtL
  dsimp only at *
  unfold maxLen at hx
  have hw : IntKind.i64.wrap (m - (dt.size : Int)) = m - dt.size := IntWalk.i64_in _ (by omega)
  by_cases hn : m - (dt.size : Int) < 0
  · rw [if_pos hn]
    have hd : decide (m - (dt.size : Int) < 0) = true := decide_eq_true hn
    clear hn
    go_enter Tryz.func77, Tryz.ntmps77
    go_wp2
    go_ret
    exact ⟨rfl, (Below.refl _ _).alloc (Nat.le_refl _) _⟩
  · rw [if_neg hn]
    have hd : decide (m - (dt.size : Int) < 0) = false := decide_eq_false hn
    clear hn
    go_enter Tryz.func77, Tryz.ntmps77
    go_wp2
    go_ret
    exact ⟨rfl, (Below.refl _ _).alloc (Nat.le_refl _) _⟩
set_option maxRecDepth 100000 in
set_option maxHeartbeats 1000000 in
theorem szGotS_more (a : Option Addr) (cap : Nat) (l : List Gt) (m0 : Int) (w : World) (h : RsIn gtL 3 w a l) (hok : ∀ i, i < l.length → (gtAt l i).dt.size ≤ maxLen) (hlen : l.length ≤ maxLen) (hm0 : 0 ≤ m0) (hm1 : m0 ≤ 1048576) :
    Calls Tryz.prog 29 #[.slice a l.length cap, .int .i64 m0] w fun e w' => ∃ m : Int, e = .returned (.int .i64 m) ∧ -1 ≤ m ∧ m ≤ 1048576 ∧ (0 ≤ m → l.length ≤ 1048576 ∧ ∀ i, i < l.length → (gtAt l i).dt.size ≤ 1048576) ∧ Below w.heap.size w w' := by
  unfold maxLen at hlen
  by_cases hbig : m0 < l.length
  · have hd : decide (m0 - (l.length : Int) < 0) = true := decide_eq_true (by omega)
    have hw : IntKind.i64.wrap (m0 - (l.length : Int)) = m0 - l.length := IntWalk.i64_in _ (by omega)
    go_enter Tryz.func29, Tryz.ntmps29
    go_wp2_with fail
    go_ret
    exact ⟨-1, rfl, by omega, by omega, fun q => absurd q (by omega), Below.refl _ _⟩
  · have hd : decide (m0 - (l.length : Int) < 0) = false := decide_eq_false (by omega)
    have hw : IntKind.i64.wrap (m0 - (l.length : Int)) = m0 - l.length := IntWalk.i64_in _ (by omega)
    obtain ⟨M, hM⟩ : ∃ M : Int, m0 - (l.length : Int) = M := ⟨_, rfl⟩
    rw [hM] at hd hw
    have hM1 : 0 ≤ M ∧ M ≤ 1048576 := by omega
    have HI := Lib.hid h
    have HK := Lib.hid hok
    clear h hok
    obtain ⟨N, hN⟩ : ∃ N, l.length = N := ⟨_, rfl⟩
    have HN := Lib.hid hN
    rw [hN] at hbig hM ⊢
    have hlN : N ≤ 1048576 := by omega
    clear hN hlen
    go_enter Tryz.func29, Tryz.ntmps29
    go_wp2_with fail
    go_loopw [1, 5] (fun u i wr => ∃ (k : Nat) (m : Int), i = .int .i64 (k : Int) ∧ u = .int .i64 m ∧ k ≤ N ∧ 0 ≤ m ∧ m ≤ 1048576 ∧ (∀ i, i < k → (gtAt l i).dt.size ≤ 1048576) ∧ Below w.heap.size w wr) (fun _ i _ => N - (intOf i).toNat)
    case atStart => exact ⟨0, M, rfl, rfl, by omega, hM1.1, hM1.2, fun i hi => absurd hi (by omega), Below.refl _ _⟩
    case round =>
      obtain ⟨k, m, rfl, rfl, hk, hm0, hm1, hall, hb⟩ := hrel
      have HA := Lib.hid hall
      clear hall
      by_cases hkn : k < N
      · have hkl : k < l.length := by have := HN.out; omega
        obtain ⟨b, o, rfl, hlt, hc⟩ := HI.out.at (by omega)
        have HCs := Lib.hid (fun j v hv => (hb.cell (p := ⟨b, _, none⟩) hlt).trans (hc k _ (gtAt_some hkl) j v hv))
        have hg := HK.out k hkl
        have hbs := hb.size
        have hi1 : (0 : Int) ≤ (k : Int) := by omega
        have hi2 : (k : Int) < (N : Int) := by omega
        have HG := Lib.hid hg
        have HA2 := Lib.hid (show (gtAt l k).dt.size ≤ 1048576 → ∀ i, i < k + 1 → (gtAt l i).dt.size ≤ 1048576 from fun h i hi => by
          rcases Nat.lt_or_ge i k with h' | h'
          · exact HA.out i h'
          · rw [show i = k by omega]; exact h)
        clear hc hg HA
        generalize gtAt l k = x at *
        have HC := fun W => Lib.hid (szGot_any x m W hm0 hm1 HG.out)
        by_cases hneg : m - x.dt.size < 0
        · rw [if_pos hneg] at HC
          have e0 : decide ((-1 : Int) < 0) = true := by decide
          go_wp2_with (refine wpList_load_cells rfl 138 (.tmp 20) rfl b (o + k * 3) rfl (gtL x) HCs.out _ Tryz.underlying138 rfl (by kernel_rfl) ?_)
          refine (HC _).out.mono ?_
          rintro e w1 ⟨rfl, h1⟩
          go_wp2_with fail
          go_ret
          exact ⟨-1, rfl, by omega, by omega, fun q => absurd q (by omega), hb.trans (h1.mono hbs)⟩
        · rw [if_neg hneg] at HC
          have hs := HA2.out (by omega)
          have HA3 := Lib.hid hs
          clear hs HA2
          obtain ⟨m', hm'⟩ : ∃ m' : Int, m - x.dt.size = m' := ⟨_, rfl⟩
          rw [hm'] at HC
          have hm2 : 0 ≤ m' ∧ m' ≤ 1048576 := by omega
          clear hm' hneg
          have e0 : decide (m' < 0) = false := decide_eq_false (by omega)
          go_wp2_with (refine wpList_load_cells rfl 138 (.tmp 20) rfl b (o + k * 3) rfl (gtL x) HCs.out _ Tryz.underlying138 rfl (by kernel_rfl) ?_)
          refine (HC _).out.mono ?_
          rintro e w1 ⟨rfl, h1⟩
          go_wp2_with fail
          go_roundw
          case rel => exact ⟨k + 1, m', by go_num, rfl, by omega, hm2.1, hm2.2, HA3.out, hb.trans (h1.mono hbs)⟩
          case measure => simp [intOf]; omega
      · have HA2 := Lib.hid (show ∀ i, i < N → (gtAt l i).dt.size ≤ 1048576 from fun i hi => HA.out i (by omega))
        clear HA
        go_wp2_with fail
        go_ret
        exact ⟨m, rfl, by omega, hm1, fun _ => ⟨by omega, HA2.out⟩, hb⟩
set_option maxHeartbeats 1000000 in
theorem toGot_row (x : Gt) (W : World) :
    Calls Tryz.prog 97 #[.agg (gtL x).toArray] W fun e W' => e = .returned (.agg (gtL x).toArray) ∧ Below W.heap.size W W' := by
  obtain ⟨s, p, dt⟩ := x
  unfold gtL
  go_enter Tryz.func97, Tryz.ntmps97
  go_wp2
  exact bodyPost_ret (v := .agg #[.int .i64 s, .int .i64 p, .string dt]) (by simp [results, Tryz.results97, go_sem]) rfl ⟨rfl, (((Below.refl _ _).alloc (Nat.le_refl _) _).alloc (by simp) _).alloc (by simp; omega) _⟩
theorem GotTo.info : (Tryz.prog.info? 144).map (fun i => (i.zero, i.size, i.bytes)) = some (some (.agg #[.int .i64 0, .int .i64 0, .string ByteArray.empty]), 3, 32) := by kernel_rfl
set_option maxRecDepth 100000 in
set_option maxHeartbeats 2000000 in
theorem toGotS_new (a : Option Addr) (cap : Nat) (l : List Gt) (w : World) (h : RsIn gtL 3 w a l) (hlen : l.length ≤ 1048576) :
    Calls Tryz.prog 43 #[.slice a l.length cap] w fun e w' => ∃ a', e = .returned (.slice a' l.length l.length) ∧ RsNew gtL 3 144 w.heap.size w'.heap.size w' a' l ∧ Below w.heap.size w w' := by
  obtain ⟨i0, hi, hz0, hz1, hz2⟩ := info_parts GotTo.info
  obtain ⟨N, hN⟩ : ∃ N, l.length = N := ⟨_, rfl⟩
  have HN := Lib.hid hN
  have HH := Lib.hid h
  rw [hN] at hlen ⊢
  clear hN h
  go_enter Tryz.func43, Tryz.ntmps43
  go_wp2_with (at_make; refine wpList_make_full _ rfl (.tmp 6) (.tmp 6) 46 rfl w.heap.size 144 i0 (.agg #[.int .i64 0, .int .i64 0, .string ByteArray.empty]) 3 Tryz.underlying46 hi hz0 hz1 .i64 .i64 (N : Int) (N : Int) N (by rfl) (by rfl) (by omega) (by omega) (by rw [hz2]; omega) (by unfold maxLen; omega) (Nat.le_refl _) ?_; intro w1 hown hgrow)
  have hb1 : Below w.heap.size w w1 := (Below.refl _ _).grown hgrow (Nat.le_refl _) (fun _ h => by cases h)
  rcases Nat.eq_zero_or_pos N with hN0 | hN0
  · subst hN0
    have hl : l = [] := List.eq_nil_of_length_eq_zero HN.out
    clear hown hgrow
    refine wp_loop_rounds 1 ?_
    rw [rounds_succ]; go_wp2
    go_ret
    exact ⟨_, rfl, .inl (by first | exact hl | rfl), hb1⟩
  obtain ⟨row0, hg0, hs0⟩ : ∃ row0, w1.heap[w.heap.size]? = some (.cells row0 144 (0, 0)) ∧ row0.size = N * 3 := by
    rcases hown.2 with ⟨h', _⟩ | ⟨g', cap', cur, h', _, hg, _, _, hc, _⟩
    · simp at h'
    · simp only [Value.slice.injEq, Option.some.injEq, Addr.mk.injEq, and_true, true_and] at h'
      obtain ⟨rfl, rfl⟩ := h'
      exact ⟨cur, hg, hc⟩
  have HG0 := Lib.hid hg0
  have HS0 := Lib.hid hs0
  clear hown hgrow hg0 hs0
  obtain ⟨b, o, rfl, hlt, hc⟩ := HH.out.at (by have := HN.out; omega)
  have HI := Lib.hid hc
  clear hc HH
  go_loopw [4] (fun i wr => ∃ (k : Nat) (row : Array Value), i = .int .i64 (k : Int) ∧ k ≤ N ∧ Below w.heap.size w wr ∧ wr.heap[w.heap.size]? = some (.cells row 144 (0, 0)) ∧ row.size = N * 3 ∧
    (∀ j, j < k → ∀ c v, (gtL (gtAt l j))[c]? = some v → row[j * 3 + c]? = some v)) (fun i _ => N - (intOf i).toNat)
  case atStart => exact ⟨0, row0, rfl, by omega, hb1, HG0.out, HS0.out, fun j hj => absurd hj (by omega)⟩
  case round =>
    obtain ⟨k, row, rfl, hk, hb, hgr, hrs, hdone⟩ := hrel
    have HD := Lib.hid hdone
    have HR := Lib.hid hgr
    have HRs := Lib.hid hrs
    have hsz : w.heap.size < wr.heap.size := (Array.getElem?_eq_some_iff.1 hgr).1
    clear hdone hgr hrs
    by_cases hkn : k < N
    · have hkl : k < l.length := by have := HN.out; omega
      have hi1 : (0 : Int) ≤ (k : Int) := by omega
      have hi2 : (k : Int) < (N : Int) := by omega
      have HCs := Lib.hid (fun j v hv => (hb.cell (p := ⟨b, _, none⟩) hlt).trans (HI.out k _ (gtAt_some hkl) j v hv))
      go_wp2_with (refine wpList_load_cells rfl 138 (.tmp 18) rfl b (o + k * 3) rfl (gtL (gtAt l k)) HCs.out _ Tryz.underlying138 rfl (by kernel_rfl) ?_)
      refine (toGot_row _ _).mono ?_
      rintro e w2 ⟨rfl, h2⟩
      have hg2 := (h2.block _ hsz).trans HR.out
      have HG2 := Lib.hid hg2
      clear hg2
      go_wp2_with (refine wpList_put_at rfl 144 (.tmp 21) (.tmp 20) rfl rfl (w.heap.size) (k * 3) rfl (.agg (gtL (gtAt l k)).toArray) rfl (gtL (gtAt l k)).toArray rfl 144 row _ HG2.out (by kernel_rfl) (Nat.ble_eq_true_of_le (by show k * 3 + 3 ≤ row.size; rw [HRs.out]; omega)) (by rfl) rfl ?_; intro w3 g3 o3; have HG3 := Lib.hid g3; have HO3 := Lib.hid o3; clear g3 o3)
      go_roundw
      case rel =>
        refine ⟨k + 1, _, by go_num, by omega, ?_, HG3.out, by rw [setAll_size, HRs.out], fun j hj c v hv => ?_⟩
        · exact HO3.out.below (hb.trans (h2.mono (Nat.le_of_lt hsz))) (Nat.le_refl _) (Nat.le_trans (Nat.le_of_lt hsz) h2.size)
        · have hc7 : c < 3 := by
            have := (List.getElem?_eq_some_iff.1 hv).1
            rwa [gtL_len] at this
          rcases Nat.lt_or_ge j k with h | h
          · rw [setAll_off _ _ _ _ (.inl (by omega))]
            exact HD.out j h c v hv
          · obtain rfl : j = k := by omega
            exact setAll_at _ _ _ _ _ (by show j * 3 + 3 ≤ row.size; rw [HRs.out]; omega) hv
      case measure => simp [intOf]; omega
    · have hge : N ≤ k := by omega
      go_wp2_with fail
      go_ret
      exact ⟨_, rfl, .inr ⟨w.heap.size, 0, row, rfl, Nat.le_refl _, hsz, HR.out, by rw [HRs.out, HN.out]; omega, fun i x hx c v hv => by
        have hi : i < l.length := (List.getElem?_eq_some_iff.1 hx).1
        rw [gtAt_some hi] at hx
        obtain rfl := Option.some.inj hx
        rw [Nat.zero_add]
        exact HD.out i (by have := HN.out; omega) c v hv⟩, hb⟩
set_option maxHeartbeats 1000000 in
theorem eqGot_row (x : Gt) (W : World) :
    Calls Tryz.prog 112 #[.agg (gtL x).toArray, .agg (gtL x).toArray] W fun e W' => e = .returned (.bool true) ∧ Below W.heap.size W W' := by
  obtain ⟨s, p, dt⟩ := x
  unfold gtL
  go_enter Tryz.func112, Tryz.ntmps112
  go_wp2
  go_ret
  exact ⟨rfl, ((Below.refl _ _).alloc (Nat.le_refl _) _).alloc (by simp) _⟩
set_option maxRecDepth 100000 in
set_option maxHeartbeats 2000000 in
theorem eqGotS_same (a a' : Option Addr) (cap cap' : Nat) (l : List Gt) (w : World) (h : RsIn gtL 3 w a l) (h' : RsIn gtL 3 w a' l) (hlen : l.length ≤ 1048576) :
    Calls Tryz.prog 55 #[.slice a l.length cap, .slice a' l.length cap'] w fun e w' => e = .returned (.bool true) ∧ Below w.heap.size w w' := by
  obtain ⟨N, hN⟩ : ∃ N, l.length = N := ⟨_, rfl⟩
  have HN := Lib.hid hN
  have HI := Lib.hid h
  have HI' := Lib.hid h'
  rw [hN] at hlen ⊢
  clear hN h h'
  go_enter Tryz.func55, Tryz.ntmps55
  go_wp2_with fail
  go_loopw [5] (fun i wr => ∃ k : Nat, i = .int .i64 (k : Int) ∧ k ≤ N ∧ Below w.heap.size w wr) (fun i _ => N - (intOf i).toNat)
  case atStart => exact ⟨0, rfl, by omega, Below.refl _ _⟩
  case round =>
    obtain ⟨k, rfl, hk, hb⟩ := hrel
    by_cases hkn : k < N
    · have hkl : k < l.length := by have := HN.out; omega
      have hi1 : (0 : Int) ≤ (k : Int) := by omega
      have hi2 : (k : Int) < (N : Int) := by omega
      obtain ⟨b, o, rfl, hlt, hc⟩ := HI.out.at (by omega)
      obtain ⟨b', o', rfl, hlt', hc'⟩ := HI'.out.at (by omega)
      have lB : b < wr.heap.size := Nat.lt_of_lt_of_le hlt hb.size
      have lB' : b' < wr.heap.size := Nat.lt_of_lt_of_le hlt' hb.size
      have HC := Lib.hid (fun j v hv => (hb.cell (p := ⟨b, _, none⟩) hlt).trans (hc k _ (gtAt_some hkl) j v hv))
      have HC' := Lib.hid (fun j v hv => (hb.cell (p := ⟨b', _, none⟩) hlt').trans (hc' k _ (gtAt_some hkl) j v hv))
      clear hc hc'
      generalize gtAt l k = x at *
      go_wp2_with fail
      refine wp_region_quiet (C := fun W => Below wr.heap.size wr W) (by kernel_rfl) (by kernel_rfl) (Below.refl _ _).drew ?_
      dsimp only
      go_big_quiet_want; go_big_quiet_op; first | go_big_quiet_on | (refine ⟨_, fun _ _ => rfl, ?_⟩; go_big_quiet_on)
      go_big_quiet_want; go_big_quiet_op; first | go_big_quiet_on | (refine ⟨_, fun _ _ => rfl, ?_⟩; go_big_quiet_on)
      go_big_quiet_want; go_big_quiet_op; first | go_big_quiet_on | (refine ⟨_, fun _ _ => rfl, ?_⟩; go_big_quiet_on)
      go_big_quiet_want; refine ⟨.agg (gtL x).toArray, fun W hW => (quietLoadCells 144 (.tmp 19) rfl b (o + k * 3) rfl (gtL x) (grownCells lB HC.out hW) _ Tryz.underlying144 rfl (by kernel_rfl)), ?_⟩; simp only [Act.put, List.setIfInBounds_toArray, List.set_cons_zero, List.set_cons_succ]; go_big_quiet_on
      go_big_quiet_want; go_big_quiet_op; first | go_big_quiet_on | (refine ⟨_, fun _ _ => rfl, ?_⟩; go_big_quiet_on)
      go_big_quiet_want; go_big_quiet_op; first | go_big_quiet_on | (refine ⟨_, fun _ _ => rfl, ?_⟩; go_big_quiet_on)
      go_big_quiet_want; go_big_quiet_op; first | go_big_quiet_on | (refine ⟨_, fun _ _ => rfl, ?_⟩; go_big_quiet_on)
      go_big_quiet_want; refine ⟨.agg (gtL x).toArray, fun W hW => (quietLoadCells 144 (.tmp 23) rfl b' (o' + k * 3) rfl (gtL x) (grownCells lB' HC'.out hW) _ Tryz.underlying144 rfl (by kernel_rfl)), ?_⟩; simp only [Act.put, List.setIfInBounds_toArray, List.set_cons_zero, List.set_cons_succ]; go_big_quiet_on
      go_big_quiet_want; go_big_quiet_op; refine ⟨_, fun W hW => quietCall hW (eqGot_row x W), ?_⟩; go_big_quiet_on
      go_big_quiet_want; go_big_quiet_op; first | go_big_quiet_on | (refine ⟨_, fun _ _ => rfl, ?_⟩; go_big_quiet_on)
      refine wpQuiet_nil ?_
      intro X hX
      go_wp2_with fail
      go_roundw
      case rel => exact ⟨k + 1, by go_num, by omega, hb.trans (hX.mono hb.size)⟩
      case measure => simp [intOf]; omega
    · go_wp2_with fail
      go_ret
      exact ⟨rfl, hb⟩
/-- The marks from q on. -/
def markGt (q : Nat) : Gt := ⟨((q : Nat) : Int), ((q + 1 : Nat) : Int), markT (q + 2)⟩
/-- m of them from k on. -/
def marksGt (k m : Nat) : List Gt := (List.range m).map fun i => markGt (k + 3 * i)
theorem marksGt_length (k m : Nat) : (marksGt k m).length = m := by simp [marksGt]
theorem marksGt_at {k m i : Nat} {x : Gt} (h : (marksGt k m)[i]? = some x) : i < m ∧ x = markGt (k + 3 * i) := by
  unfold marksGt at h
  rw [List.getElem?_map] at h
  obtain ⟨j, hj, rfl⟩ := Option.map_eq_some_iff.1 h
  obtain ⟨hi, rfl⟩ := List.getElem?_eq_some_iff.1 hj
  have hi' : i < m := by simpa using hi
  simp [hi']
theorem marksGt_get {k m i : Nat} (h : i < m) : (marksGt k m)[i]? = some (markGt (k + 3 * i)) := by
  unfold marksGt
  rw [List.getElem?_map, List.getElem?_range h]
  rfl
set_option maxRecDepth 100000 in
set_option maxHeartbeats 8000000 in
theorem markGotS_any {lo hi : Nat} (a : Option Addr) (cap : Nat) (l : List Gt) (k : Nat) (w : World) (h : RsNew gtL 3 144 lo hi w a l) (hk0 : 0 < k) (hk : k + 3 * l.length ≤ 30000000) :
    Calls Tryz.prog 61 #[.slice a l.length cap, .int .i64 (k : Int)] w fun e w' => e = .returned (.int .i64 ((k + 3 * l.length : Nat) : Int)) ∧ RsNew gtL 3 144 lo hi w' a (marksGt k l.length) ∧ Out lo hi w w' := by
  obtain ⟨N, hN⟩ : ∃ N, l.length = N := ⟨_, rfl⟩
  have HN := Lib.hid hN
  rcases Nat.eq_zero_or_pos N with hN0 | hN0
  · rw [hN]
    subst hN0
    clear hN h
    go_enter Tryz.func61, Tryz.ntmps61
    go_wp2
    refine wp_loop_rounds 1 ?_
    rw [rounds_succ]; go_wp2
    go_ret
    exact ⟨rfl, .inl (by first | rfl | (simp [marksGt])), Out.refl _ _ _⟩
  obtain ⟨b, o, row0, rfl, hlo, hhi, hg0, hs0⟩ : ∃ b o row, a = some ⟨b, o, none⟩ ∧ lo ≤ b ∧ b < hi ∧ w.heap[b]? = some (.cells row 144 (0, 0)) ∧ o + N * 3 ≤ row.size := by
    rcases h with h | ⟨b, o, row, h1, h2, h3, h4, h5, h6⟩
    · rw [h] at hN
      simp at hN
      omega
    · rw [hN] at h5
      exact ⟨b, o, row, h1, h2, h3, h4, h5⟩
  have HG0 := Lib.hid hg0
  have hN8 : N ≤ 30000000 := by omega
  have HS0 := Lib.hid hs0
  rw [hN] at hk ⊢
  clear hN h hg0 hs0
  go_enter Tryz.func61, Tryz.ntmps61
  go_wp2_with fail
  go_loopw [1, 5] (fun u i wr => ∃ (m : Nat) (row : Array Value), i = .int .i64 (m : Int) ∧ u = .int .i64 ((k + 3 * m : Nat) : Int) ∧ m ≤ N ∧ Out lo hi w wr ∧ wr.heap[b]? = some (.cells row 144 (0, 0)) ∧ o + N * 3 ≤ row.size ∧
    (∀ j, j < m → ∀ c v, (gtL (markGt (k + 3 * j)))[c]? = some v → row[o + j * 3 + c]? = some v)) (fun _ i _ => N - (intOf i).toNat)
  case atStart => exact ⟨0, row0, rfl, rfl, by omega, Out.refl _ _ _, HG0.out, HS0.out, fun j hj => absurd hj (by omega)⟩
  case round =>
    obtain ⟨m, row, rfl, rfl, hm, hb, hgr, hrs, hdone⟩ := hrel
    have HD := Lib.hid hdone
    have HA := Lib.hid hgr
    have HB := Lib.hid hb
    have HRS := Lib.hid hrs
    clear hdone hgr hb HG0 HS0
    by_cases hmn : m < N
    · have hi1 : (0 : Int) ≤ (m : Int) := by omega
      have hi2 : (m : Int) < (N : Int) := by omega
      have hq : k + 3 * m + 3 ≤ 30000000 := by omega
      have hroom : o + m * 3 + 3 ≤ row.size := by omega
      have HK := Lib.hid (show k + 3 * (m + 1) = k + 3 * m + 3 by omega)
      obtain ⟨q, eq⟩ : ∃ q, k + 3 * m = q := ⟨_, rfl⟩
      have hq0 : 0 < q := by omega
      have HQ := Lib.hid eq
      rw [eq] at hq HK ⊢
      clear eq
      have HM := fun W => Lib.hid (markText_any (q + 2) W (by omega) (by omega))
      have w0_ : IntKind.i64.wrap (((q : Nat) : Int) + 1) = ((q + 1 : Nat) : Int) := by rw [IntWalk.i64_in _ (by omega)]; omega
      have w1_ : IntKind.i64.wrap (((q + 1 : Nat) : Int) + 1) = ((q + 2 : Nat) : Int) := by rw [IntWalk.i64_in _ (by omega)]; omega
      have w2_ : IntKind.i64.wrap (((q + 2 : Nat) : Int) + 1) = ((q + 3 : Nat) : Int) := by rw [IntWalk.i64_in _ (by omega)]; omega
      generalize e1_ : q + 1 = q1 at *
      generalize e2_ : q + 2 = q2 at *
      generalize e3_ : q + 3 = q3 at *
      obtain ⟨tx, etx⟩ : ∃ tx, markT q2 = tx := ⟨_, rfl⟩
      rw [etx] at HM
      have HTX := Lib.hid etx
      clear etx
      obtain ⟨p0, ep0⟩ : ∃ p, o + m * 3 = p := ⟨_, rfl⟩
      have HP := Lib.hid ep0
      obtain ⟨r1, er1⟩ : ∃ r, setAll row (p0) [.int .i64 (q : Int)] = r := ⟨_, rfl⟩
      have sr1 : r1.size = row.size := by rw [← er1, setAll_size]
      obtain ⟨r2, er2⟩ : ∃ r, setAll r1 (p0 + 1) [.int .i64 (q1 : Int)] = r := ⟨_, rfl⟩
      have sr2 : r2.size = row.size := by rw [← er2, setAll_size, sr1]
      obtain ⟨r3, er3⟩ : ∃ r, setAll r2 (p0 + 2) [.string tx] = r := ⟨_, rfl⟩
      have sr3 : r3.size = row.size := by rw [← er3, setAll_size, sr2]
      have HER := Lib.hid (And.intro er1 (And.intro er2 er3))
      rw [ep0] at hroom
      have k0 : Nat.ble (p0 + 1) row.size = true := Nat.ble_eq_true_of_le (by omega)
      have k1 : Nat.ble (p0 + 1 + 1) r1.size = true := Nat.ble_eq_true_of_le (by omega)
      have k2 : Nat.ble (p0 + 2 + 1) r2.size = true := Nat.ble_eq_true_of_le (by omega)
      have HE := Lib.hid (And.intro e1_ (And.intro e2_ e3_))
      clear er1 er2 er3 e1_ e2_ e3_ hrs hk hroom hq sr1 sr2
      clear ep0
      go_wp2_with (first
        | (refine wpList_put_at rfl 2 (.tmp 16) (.tmp 14) rfl rfl b (o + m * 3) rfl (.int .i64 (q : Int)) rfl #[.int .i64 (q : Int)] rfl 144 row r1 HA.out (by kernel_rfl) (by rw [HP.out]; exact k0) rfl (by rw [HP.out]; exact HER.out.1) ?_; intro x1 g0 o0; have HA1 := Lib.hid g0; have HB1 := Lib.hid (HB.out.trans (o0.widen hlo hhi)); clear g0 o0)
        | (refine wpList_put_at rfl 2 (.tmp 23) (.tmp 21) rfl rfl b (o + m * 3 + 1) rfl (.int .i64 (q1 : Int)) rfl #[.int .i64 (q1 : Int)] rfl 144 r1 r2 HA1.out (by kernel_rfl) (by rw [HP.out]; exact k1) rfl (by rw [HP.out]; exact HER.out.2.1) ?_; intro x2 g1 o1; have HA2 := Lib.hid g1; have HB2 := Lib.hid (HB1.out.trans (o1.widen hlo hhi)); clear g1 o1))
      refine (HM _).out.mono ?_
      rintro e x2b ⟨rfl, h5⟩
      have HA2b := Lib.hid ((h5.block b (Array.getElem?_eq_some_iff.1 HA2.out).1).trans HA2.out)
      have HB2b := Lib.hid (HB2.out.trans (Out.of_below h5))
      clear h5 HA HB HA1 HB1 HA2 HB2
      go_wp2_with (first
        | (refine wpList_put_at rfl 9 (.tmp 31) (.tmp 29) rfl rfl b (o + m * 3 + 2) rfl (.string tx) rfl #[.string tx] rfl 144 r2 r3 HA2b.out (by kernel_rfl) (by rw [HP.out]; exact k2) rfl (by rw [HP.out]; exact HER.out.2.2) ?_; intro x3 g2 o2; have HA3 := Lib.hid g2; have HB3 := Lib.hid (HB2b.out.trans (o2.widen hlo hhi)); clear g2 o2))
      go_roundw
      case rel =>
        refine ⟨m + 1, r3, by go_num, by rw [HK.out], by omega, HB3.out, HA3.out, by rw [sr3]; exact HRS.out, fun j hj c v hv => ?_⟩
        obtain ⟨E1, E2, E3⟩ := HER.out
        obtain ⟨F1, F2, F3⟩ := HE.out
        have hp := HP.out
        have hrs2 := HRS.out
        have hc7 : c < 3 := by
          have := (List.getElem?_eq_some_iff.1 hv).1
          rwa [gtL_len] at this
        rcases Nat.lt_or_ge j m with h | h
        · have hlt : o + j * 3 + c < p0 := by omega
          rw [← E3, setAll_off _ _ _ _ (.inl (by omega)), ← E2, setAll_off _ _ _ _ (.inl (by omega)), ← E1, setAll_off _ _ _ _ (.inl (by omega))]
          exact HD.out j h c v hv
        · obtain rfl : j = m := by omega
          rw [HQ.out] at hv
          unfold markGt gtL at hv
          dsimp only at hv
          rw [F1, F2, HTX.out] at hv
          rw [hp]
          have z : ∀ (rr : Array Value) (p : Nat) (u : Value), p < rr.size → (setAll rr p [u])[p]? = some u := fun rr p u hp => by
            have := setAll_at [u] rr p 0 u (by show p + 1 ≤ _; omega) rfl
            simpa using this
          have y : ∀ (rr : Array Value) (p p' : Nat) (u : Value), p' < p → (setAll rr p [u])[p']? = rr[p']? := fun rr p p' u hp => setAll_off _ _ _ _ (.inl hp)
          rcases c with _ | _ | _ | c
          · simp at hv
            subst hv
            rw [← E3, y _ _ _ _ (by omega), ← E2, y _ _ _ _ (by omega), ← E1]
            exact z _ _ _ (by have a0 := congrArg Array.size E1; have a1 := congrArg Array.size E2; have a2 := congrArg Array.size E3; rw [setAll_size] at a0 a1 a2; omega)
          · simp at hv
            subst hv
            rw [← E3, y _ _ _ _ (by omega), ← E2]
            exact z _ _ _ (by have a0 := congrArg Array.size E1; have a1 := congrArg Array.size E2; have a2 := congrArg Array.size E3; rw [setAll_size] at a0 a1 a2; omega)
          · simp at hv
            subst hv
            rw [← E3]
            exact z _ _ _ (by have a0 := congrArg Array.size E1; have a1 := congrArg Array.size E2; have a2 := congrArg Array.size E3; rw [setAll_size] at a0 a1 a2; omega)
          · omega
      case measure => simp [intOf]; omega
    · have hge : N ≤ m := by omega
      go_wp2_with fail
      go_ret
      refine ⟨by rw [show N = m by omega]; rfl, .inr ⟨b, o, row, rfl, hlo, hhi, HA.out, by rw [marksGt_length]; exact HRS.out, fun i x hx c v hv => ?_⟩, HB.out⟩
      obtain ⟨hi', rfl⟩ := marksGt_at hx
      exact HD.out i (by omega) c v hv
set_option maxRecDepth 100000 in
set_option maxHeartbeats 8000000 in
theorem heldGotS_any {lo hi : Nat} (a : Option Addr) (cap : Nat) (N : Nat) (k : Nat) (w : World) (h : RsNew gtL 3 144 lo hi w a (marksGt k N)) (hk0 : 0 < k) (hk : k + 3 * N ≤ 30000000) :
    Calls Tryz.prog 120 #[.slice a N cap, .int .i64 (k : Int)] w fun e w' => e = .returned (.int .i64 ((k + 3 * N : Nat) : Int)) ∧ Below w.heap.size w w' := by
  have HI := Lib.hid h
  have hN8 : N ≤ 30000000 := by omega
  clear h
  go_enter Tryz.func120, Tryz.ntmps120
  go_wp2_with fail
  go_loopw [1, 5] (fun u i wr => ∃ m : Nat, i = .int .i64 (m : Int) ∧ u = .int .i64 ((k + 3 * m : Nat) : Int) ∧ m ≤ N ∧ Below w.heap.size w wr) (fun _ i _ => N - (intOf i).toNat)
  case atStart => exact ⟨0, rfl, rfl, by omega, Below.refl _ _⟩
  case round =>
    obtain ⟨m, rfl, rfl, hm, hb⟩ := hrel
    by_cases hmn : m < N
    · obtain ⟨b, o, row, rfl, _, _, hg, _, hc⟩ : ∃ b o row, a = some ⟨b, o, none⟩ ∧ lo ≤ b ∧ b < hi ∧ w.heap[b]? = some (.cells row 144 (0, 0)) ∧ o + (marksGt k N).length * 3 ≤ row.size ∧ ∀ (i : Nat) x, (marksGt k N)[i]? = some x → ∀ (j : Nat) v, (gtL x)[j]? = some v → row[o + i * 3 + j]? = some v := by
        rcases HI.out with h | h
        · have := marksGt_length k N
          rw [h] at this
          simp at this
          omega
        · exact h
      have hx := hc m _ (marksGt_get hmn)
      have hgw := (hb.block b (Array.getElem?_eq_some_iff.1 hg).1).trans hg
      have HG := Lib.hid hgw
      have hi1 : (0 : Int) ≤ (m : Int) := by omega
      have hi2 : (m : Int) < (N : Int) := by omega
      have HK := Lib.hid (show k + 3 * (m + 1) = k + 3 * m + 3 by omega)
      have hq : k + 3 * m + 3 ≤ 30000000 := by omega
      obtain ⟨q, eq⟩ : ∃ q, k + 3 * m = q := ⟨_, rfl⟩
      have hq0 : 0 < q := by omega
      rw [eq] at hq HK hx ⊢
      unfold markGt gtL at hx
      dsimp only at hx
      have c0 := hx 0 _ rfl
      have c1 := hx 1 _ rfl
      have c2 := hx 2 _ rfl
      have HM := fun W => Lib.hid (markText_any (q + 2) W (by omega) (by omega))
      have w0_ : IntKind.i64.wrap (((q : Nat) : Int) + 1) = ((q + 1 : Nat) : Int) := by rw [IntWalk.i64_in _ (by omega)]; omega
      have w1_ : IntKind.i64.wrap (((q + 1 : Nat) : Int) + 1) = ((q + 2 : Nat) : Int) := by rw [IntWalk.i64_in _ (by omega)]; omega
      have w2_ : IntKind.i64.wrap (((q + 2 : Nat) : Int) + 1) = ((q + 3 : Nat) : Int) := by rw [IntWalk.i64_in _ (by omega)]; omega
      clear hx hc hg hgw hk hq hq0 eq
      rw [Nat.add_zero] at c0
      generalize q + 1 = q1 at *
      generalize q + 2 = q2 at *
      generalize q + 3 = q3 at *
      have n0 : ((q : Int) != (q : Int)) = false := by simp
      have n1 : ((q1 : Int) != (q1 : Int)) = false := by simp
      obtain ⟨tx, etx⟩ : ∃ tx, markT q2 = tx := ⟨_, rfl⟩
      rw [etx] at HM c2
      clear etx
      go_wp2_with (first
        | (refine wpList_load_one rfl 2 (.tmp 15) rfl b (o + m * 3) rfl 144 row (0, 0) HG.out _ c0 _ Tryz.underlying2 rfl (by kernel_rfl) ?_)
        | (refine wpList_load_one rfl 2 (.tmp 24) rfl b (o + m * 3 + 1) rfl 144 row (0, 0) HG.out _ c1 _ Tryz.underlying2 rfl (by kernel_rfl) ?_))
      refine wp_region_quiet (C := fun W => Below wr.heap.size wr W) (by kernel_rfl) (by kernel_rfl) (Below.refl _ _).drew ?_
      dsimp only
      go_big_quiet_want; go_big_quiet_op; first | go_big_quiet_on | (refine ⟨_, fun _ _ => rfl, ?_⟩; go_big_quiet_on)
      go_big_quiet_want; go_big_quiet_op; first | go_big_quiet_on | (refine ⟨_, fun _ _ => rfl, ?_⟩; go_big_quiet_on)
      go_big_quiet_want; go_big_quiet_op; first | go_big_quiet_on | (refine ⟨_, fun _ _ => rfl, ?_⟩; go_big_quiet_on)
      go_big_quiet_want; go_big_quiet_op; first | go_big_quiet_on | (refine ⟨_, fun _ _ => rfl, ?_⟩; go_big_quiet_on)
      go_big_quiet_want; refine ⟨.string tx, fun W hW => (quietLoadOne 9 (.tmp 33) rfl b (o + m * 3 + 2) rfl _ (rowCells HG.out hW _ _ c2) _ Tryz.underlying9 rfl), ?_⟩; simp only [Act.put, List.setIfInBounds_toArray, List.set_cons_zero, List.set_cons_succ]; go_big_quiet_on
      go_big_quiet_want; go_big_quiet_op; first | go_big_quiet_on | (refine ⟨_, fun _ _ => rfl, ?_⟩; go_big_quiet_on)
      go_big_quiet_want; go_big_quiet_op; refine ⟨_, fun W hW => quietCall hW (HM W).out, ?_⟩; go_big_quiet_on
      go_big_quiet_want; go_big_quiet_op; first | go_big_quiet_on | (refine ⟨_, fun _ _ => rfl, ?_⟩; go_big_quiet_on)
      refine wpQuiet_nil ?_
      intro X hX
      go_wp2_with fail
      go_roundw
      case rel => exact ⟨m + 1, by go_num, by rw [HK.out], by omega, hb.trans (hX.mono hb.size)⟩
      case measure => simp [intOf]; omega
    · have hge : N ≤ m := by omega
      go_wp2_with fail
      go_ret
      exact ⟨by rw [show N = m by omega]; rfl, hb⟩
end Go.Proofs.YtioldepgoodipaaGreat
