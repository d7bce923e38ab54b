/- Rows of Values: their size, a copy, alike, marked, read again by the laws' own functions. Nothing that was there is written, but what is marked. -/
import Derived.Test.YtanijfmfjabmfaaRsOwn
import Derived.Test.YtanijfmfjabmfaaBitsLow
import Derived.Test.YtanijfmfjabmfaaNumsTo
import Derived.Test.YtanijfmfjabmfaaSess
import Derived.Test.YtanijfmfjabmfaaTab
import Derived.Test.YtanijfmfjabmfaaOpenBits
namespace Go.Proofs.Ytanijfmfjabmfaa
open Go.RowKit
set_option linter.unusedVariables false

/-- One of them. -/
structure Vl where
  k : Int
  v : Int
/-- Its cells. -/
def vlL (x : Vl) : List Value := [.int .i64 x.k, .int .i64 x.v]
theorem vlL_len (x : Vl) : (vlL x).length = 2 := rfl
theorem vlL_one (x : Vl) : ∀ u ∈ vlL x, u.oneCell' = true := by
  intro u hu
  simp [vlL] at hu
  rcases hu with rfl | rfl <;> rfl
def vlAt (l : List Vl) (i : Nat) : Vl := l[i]?.getD ⟨0, 0⟩
theorem vlAt_some {l : List Vl} {i : Nat} (h : i < l.length) : l[i]? = some (vlAt l i) := by
  unfold vlAt
  rw [List.getElem?_eq_getElem h]
  rfl
theorem vlV_row (x : Vl) : vlV x.k x.v = .agg (vlL x).toArray := rfl
theorem szValueS_any (a : Option Addr) (cap n : Nat) (w : World) (hn : n ≤ maxLen) :
    Calls Try.prog 69 #[.slice a n cap, .int .i64 1048576] w fun e w' => ∃ m : Int, e = .returned (.int .i64 m) ∧ (0 ≤ m → n ≤ 1048576) ∧ Below w.heap.size w w' := by
  unfold maxLen at hn
  have hw : IntKind.i64.wrap (1048576 - (n : Int)) = 1048576 - n := IntWalk.i64_in _ (by omega)
  by_cases hbig : 1048576 < n
  · have hd : decide ((1048576 : Int) - (n : Int) < 0) = true := decide_eq_true (by omega)
    go_enter Try.func69, Try.ntmps69
    go_wp2_with fail
    go_ret
    exact ⟨-1, rfl, fun q => absurd q (by omega), Below.refl _ _⟩
  · have hd : decide ((1048576 : Int) - (n : Int) < 0) = false := decide_eq_false (by omega)
    go_enter Try.func69, Try.ntmps69
    go_wp2_with fail
    go_ret
    exact ⟨_, rfl, fun _ => by omega, Below.refl _ _⟩
set_option maxHeartbeats 1000000 in
theorem toValue_row (x : Vl) (W : World) :
    Calls Try.prog 143 #[.agg (vlL x).toArray] W fun e W' => e = .returned (.agg (vlL x).toArray) ∧ Below W.heap.size W W' := by
  obtain ⟨k, v⟩ := x
  unfold vlL
  go_enter Try.func143, Try.ntmps143
  go_wp2
  exact bodyPost_ret (v := .agg #[.int .i64 k, .int .i64 v]) (by simp [results, Try.results143, go_sem]) rfl ⟨rfl, (((Below.refl _ _).alloc (Nat.le_refl _) _).alloc (by simp) _).alloc (by simp; omega) _⟩
theorem ValueTo.info : (Try.prog.info? 142).map (fun i => (i.zero, i.size, i.bytes)) = some (some (.agg #[.int .i64 0, .int .i64 0]), 2, 16) := by kernel_rfl
set_option maxRecDepth 100000 in
set_option maxHeartbeats 2000000 in
theorem toValueS_new (a : Option Addr) (cap : Nat) (l : List Vl) (w : World) (h : RsIn vlL 2 w a l) (hlen : l.length ≤ 1048576) :
    Calls Try.prog 70 #[.slice a l.length cap] w fun e w' => ∃ a', e = .returned (.slice a' l.length l.length) ∧ RsNew vlL 2 142 w.heap.size w'.heap.size w' a' l ∧ Below w.heap.size w w' := by
  obtain ⟨i0, hi, hz0, hz1, hz2⟩ := info_parts ValueTo.info
  obtain ⟨N, hN⟩ : ∃ N, l.length = N := ⟨_, rfl⟩
  have HN := Lib.hid hN
  have HH := Lib.hid h
  rw [hN] at hlen ⊢
  clear hN h
  go_enter Try.func70, Try.ntmps70
  go_wp2_with (at_make; refine wpList_make_full _ rfl (.tmp 6) (.tmp 6) 61 rfl w.heap.size 142 i0 (.agg #[.int .i64 0, .int .i64 0]) 2 Try.underlying61 hi hz0 hz1 .i64 .i64 (N : Int) (N : Int) N (by rfl) (by rfl) (by omega) (by omega) (by rw [hz2]; omega) (by unfold maxLen; omega) (Nat.le_refl _) ?_; intro w1 hown hgrow)
  have hb1 : Below w.heap.size w w1 := (Below.refl _ _).grown hgrow (Nat.le_refl _) (fun _ h => by cases h)
  rcases Nat.eq_zero_or_pos N with hN0 | hN0
  · subst hN0
    have hl : l = [] := List.eq_nil_of_length_eq_zero HN.out
    clear hown hgrow
    refine wp_loop_rounds 1 ?_
    rw [rounds_succ]; go_wp2
    go_ret
    exact ⟨_, rfl, .inl (by first | exact hl | rfl), hb1⟩
  obtain ⟨row0, hg0, hs0⟩ : ∃ row0, w1.heap[w.heap.size]? = some (.cells row0 142 (0, 0)) ∧ row0.size = N * 2 := by
    rcases hown.2 with ⟨h', _⟩ | ⟨g', cap', cur, h', _, hg, _, _, hc, _⟩
    · simp at h'
    · simp only [Value.slice.injEq, Option.some.injEq, Addr.mk.injEq, and_true, true_and] at h'
      obtain ⟨rfl, rfl⟩ := h'
      exact ⟨cur, hg, hc⟩
  have HG0 := Lib.hid hg0
  have HS0 := Lib.hid hs0
  clear hown hgrow hg0 hs0
  obtain ⟨b, o, rfl, hlt, hc⟩ := HH.out.at (by have := HN.out; omega)
  have HI := Lib.hid hc
  clear hc HH
  go_loopw [4] (fun i wr => ∃ (k : Nat) (row : Array Value), i = .int .i64 (k : Int) ∧ k ≤ N ∧ Below w.heap.size w wr ∧ wr.heap[w.heap.size]? = some (.cells row 142 (0, 0)) ∧ row.size = N * 2 ∧
    (∀ j, j < k → ∀ c v, (vlL (vlAt l j))[c]? = some v → row[j * 2 + c]? = some v)) (fun i _ => N - (intOf i).toNat)
  case atStart => exact ⟨0, row0, rfl, by omega, hb1, HG0.out, HS0.out, fun j hj => absurd hj (by omega)⟩
  case round =>
    obtain ⟨k, row, rfl, hk, hb, hgr, hrs, hdone⟩ := hrel
    have HD := Lib.hid hdone
    have HR := Lib.hid hgr
    have HRs := Lib.hid hrs
    have hsz : w.heap.size < wr.heap.size := (Array.getElem?_eq_some_iff.1 hgr).1
    clear hdone hgr hrs
    by_cases hkn : k < N
    · have hkl : k < l.length := by have := HN.out; omega
      have hi1 : (0 : Int) ≤ (k : Int) := by omega
      have hi2 : (k : Int) < (N : Int) := by omega
      have HCs := Lib.hid (fun j v hv => (hb.cell (p := ⟨b, _, none⟩) hlt).trans (HI.out k _ (vlAt_some hkl) j v hv))
      go_wp2_with (refine wpList_load_cells rfl 162 (.tmp 18) rfl b (o + k * 2) rfl (vlL (vlAt l k)) HCs.out _ Try.underlying162 rfl (by kernel_rfl) ?_)
      refine (toValue_row _ _).mono ?_
      rintro e w2 ⟨rfl, h2⟩
      have hg2 := (h2.block _ hsz).trans HR.out
      have HG2 := Lib.hid hg2
      clear hg2
      go_wp2_with (refine wpList_put_at rfl 142 (.tmp 21) (.tmp 20) rfl rfl (w.heap.size) (k * 2) rfl (.agg (vlL (vlAt l k)).toArray) rfl (vlL (vlAt l k)).toArray rfl 142 row _ HG2.out (by kernel_rfl) (Nat.ble_eq_true_of_le (by show k * 2 + 2 ≤ row.size; rw [HRs.out]; omega)) (by rfl) rfl ?_; intro w3 g3 o3; have HG3 := Lib.hid g3; have HO3 := Lib.hid o3; clear g3 o3)
      go_roundw
      case rel =>
        refine ⟨k + 1, _, by go_num, by omega, ?_, HG3.out, by rw [setAll_size, HRs.out], fun j hj c v hv => ?_⟩
        · exact HO3.out.below (hb.trans (h2.mono (Nat.le_of_lt hsz))) (Nat.le_refl _) (Nat.le_trans (Nat.le_of_lt hsz) h2.size)
        · have hc7 : c < 2 := by
            have := (List.getElem?_eq_some_iff.1 hv).1
            rwa [vlL_len] at this
          rcases Nat.lt_or_ge j k with h | h
          · rw [setAll_off _ _ _ _ (.inl (by omega))]
            exact HD.out j h c v hv
          · obtain rfl : j = k := by omega
            exact setAll_at _ _ _ _ _ (by show j * 2 + 2 ≤ row.size; rw [HRs.out]; omega) hv
      case measure => simp [intOf]; omega
    · have hge : N ≤ k := by omega
      go_wp2_with fail
      go_ret
      exact ⟨_, rfl, .inr ⟨w.heap.size, 0, row, rfl, Nat.le_refl _, hsz, HR.out, by rw [HRs.out, HN.out]; omega, fun i x hx c v hv => by
        have hi : i < l.length := (List.getElem?_eq_some_iff.1 hx).1
        rw [vlAt_some hi] at hx
        obtain rfl := Option.some.inj hx
        rw [Nat.zero_add]
        exact HD.out i (by have := HN.out; omega) c v hv⟩, hb⟩
set_option maxHeartbeats 1000000 in
theorem eqValue_row (x : Vl) (W : World) :
    Calls Try.prog 144 #[.agg (vlL x).toArray, .agg (vlL x).toArray] W fun e W' => e = .returned (.bool true) ∧ Below W.heap.size W W' := by
  obtain ⟨k, v⟩ := x
  unfold vlL
  go_enter Try.func144, Try.ntmps144
  go_wp2
  go_ret
  exact ⟨rfl, ((Below.refl _ _).alloc (Nat.le_refl _) _).alloc (by simp) _⟩
set_option maxRecDepth 100000 in
set_option maxHeartbeats 2000000 in
theorem eqValueS_same (a a' : Option Addr) (cap cap' : Nat) (l : List Vl) (w : World) (h : RsIn vlL 2 w a l) (h' : RsIn vlL 2 w a' l) (hlen : l.length ≤ 1048576) :
    Calls Try.prog 71 #[.slice a l.length cap, .slice a' l.length cap'] w fun e w' => e = .returned (.bool true) ∧ Below w.heap.size w w' := by
  obtain ⟨N, hN⟩ : ∃ N, l.length = N := ⟨_, rfl⟩
  have HN := Lib.hid hN
  have HI := Lib.hid h
  have HI' := Lib.hid h'
  rw [hN] at hlen ⊢
  clear hN h h'
  go_enter Try.func71, Try.ntmps71
  go_wp2_with fail
  go_loopw [5] (fun i wr => ∃ k : Nat, i = .int .i64 (k : Int) ∧ k ≤ N ∧ Below w.heap.size w wr) (fun i _ => N - (intOf i).toNat)
  case atStart => exact ⟨0, rfl, by omega, Below.refl _ _⟩
  case round =>
    obtain ⟨k, rfl, hk, hb⟩ := hrel
    by_cases hkn : k < N
    · have hkl : k < l.length := by have := HN.out; omega
      have hi1 : (0 : Int) ≤ (k : Int) := by omega
      have hi2 : (k : Int) < (N : Int) := by omega
      obtain ⟨b, o, rfl, hlt, hc⟩ := HI.out.at (by omega)
      obtain ⟨b', o', rfl, hlt', hc'⟩ := HI'.out.at (by omega)
      have lB : b < wr.heap.size := Nat.lt_of_lt_of_le hlt hb.size
      have lB' : b' < wr.heap.size := Nat.lt_of_lt_of_le hlt' hb.size
      have HC := Lib.hid (fun j v hv => (hb.cell (p := ⟨b, _, none⟩) hlt).trans (hc k _ (vlAt_some hkl) j v hv))
      have HC' := Lib.hid (fun j v hv => (hb.cell (p := ⟨b', _, none⟩) hlt').trans (hc' k _ (vlAt_some hkl) j v hv))
      clear hc hc'
      generalize vlAt l k = x at *
      go_wp2_with fail
      refine wp_region_quiet (C := fun W => Below wr.heap.size wr W) (by kernel_rfl) (by kernel_rfl) (Below.refl _ _).drew ?_
      dsimp only
      go_big_quiet_want; go_big_quiet_op; first | go_big_quiet_on | (refine ⟨_, fun _ _ => rfl, ?_⟩; go_big_quiet_on)
      go_big_quiet_want; go_big_quiet_op; first | go_big_quiet_on | (refine ⟨_, fun _ _ => rfl, ?_⟩; go_big_quiet_on)
      go_big_quiet_want; go_big_quiet_op; first | go_big_quiet_on | (refine ⟨_, fun _ _ => rfl, ?_⟩; go_big_quiet_on)
      go_big_quiet_want; refine ⟨.agg (vlL x).toArray, fun W hW => (quietLoadCells 142 (.tmp 19) rfl b (o + k * 2) rfl (vlL x) (grownCells lB HC.out hW) _ Try.underlying142 rfl (by kernel_rfl)), ?_⟩; simp only [Act.put, List.setIfInBounds_toArray, List.set_cons_zero, List.set_cons_succ]; go_big_quiet_on
      go_big_quiet_want; go_big_quiet_op; first | go_big_quiet_on | (refine ⟨_, fun _ _ => rfl, ?_⟩; go_big_quiet_on)
      go_big_quiet_want; go_big_quiet_op; first | go_big_quiet_on | (refine ⟨_, fun _ _ => rfl, ?_⟩; go_big_quiet_on)
      go_big_quiet_want; go_big_quiet_op; first | go_big_quiet_on | (refine ⟨_, fun _ _ => rfl, ?_⟩; go_big_quiet_on)
      go_big_quiet_want; refine ⟨.agg (vlL x).toArray, fun W hW => (quietLoadCells 142 (.tmp 23) rfl b' (o' + k * 2) rfl (vlL x) (grownCells lB' HC'.out hW) _ Try.underlying142 rfl (by kernel_rfl)), ?_⟩; simp only [Act.put, List.setIfInBounds_toArray, List.set_cons_zero, List.set_cons_succ]; go_big_quiet_on
      go_big_quiet_want; go_big_quiet_op; refine ⟨_, fun W hW => quietCall hW (eqValue_row x W), ?_⟩; go_big_quiet_on
      go_big_quiet_want; go_big_quiet_op; first | go_big_quiet_on | (refine ⟨_, fun _ _ => rfl, ?_⟩; go_big_quiet_on)
      refine wpQuiet_nil ?_
      intro X hX
      go_wp2_with fail
      go_roundw
      case rel => exact ⟨k + 1, by go_num, by omega, hb.trans (hX.mono hb.size)⟩
      case measure => simp [intOf]; omega
    · go_wp2_with fail
      go_ret
      exact ⟨rfl, hb⟩
/-- The marks from q on. -/
def markVl (q : Nat) : Vl := ⟨((q : Nat) : Int), ((q + 1 : Nat) : Int)⟩
/-- m of them from k on. -/
def marksVl (k m : Nat) : List Vl := (List.range m).map fun i => markVl (k + 2 * i)
theorem marksVl_length (k m : Nat) : (marksVl k m).length = m := by simp [marksVl]
theorem marksVl_at {k m i : Nat} {x : Vl} (h : (marksVl k m)[i]? = some x) : i < m ∧ x = markVl (k + 2 * i) := by
  unfold marksVl at h
  rw [List.getElem?_map] at h
  obtain ⟨j, hj, rfl⟩ := Option.map_eq_some_iff.1 h
  obtain ⟨hi, rfl⟩ := List.getElem?_eq_some_iff.1 hj
  have hi' : i < m := by simpa using hi
  simp [hi']
theorem marksVl_get {k m i : Nat} (h : i < m) : (marksVl k m)[i]? = some (markVl (k + 2 * i)) := by
  unfold marksVl
  rw [List.getElem?_map, List.getElem?_range h]
  rfl
set_option maxRecDepth 100000 in
set_option maxHeartbeats 8000000 in
theorem markValueS_any {lo hi : Nat} (a : Option Addr) (cap : Nat) (l : List Vl) (k : Nat) (w : World) (h : RsNew vlL 2 142 lo hi w a l) (hk0 : 0 < k) (hk : k + 2 * l.length ≤ 8000000) :
    Calls Try.prog 145 #[.slice a l.length cap, .int .i64 (k : Int)] w fun e w' => e = .returned (.int .i64 ((k + 2 * l.length : Nat) : Int)) ∧ RsNew vlL 2 142 lo hi w' a (marksVl k l.length) ∧ Out lo hi w w' := by
  obtain ⟨N, hN⟩ : ∃ N, l.length = N := ⟨_, rfl⟩
  have HN := Lib.hid hN
  rcases Nat.eq_zero_or_pos N with hN0 | hN0
  · rw [hN]
    subst hN0
    clear hN h
    go_enter Try.func145, Try.ntmps145
    go_wp2
    refine wp_loop_rounds 1 ?_
    rw [rounds_succ]; go_wp2
    go_ret
    exact ⟨rfl, .inl (by first | rfl | (simp [marksVl])), Out.refl _ _ _⟩
  obtain ⟨b, o, row0, rfl, hlo, hhi, hg0, hs0⟩ : ∃ b o row, a = some ⟨b, o, none⟩ ∧ lo ≤ b ∧ b < hi ∧ w.heap[b]? = some (.cells row 142 (0, 0)) ∧ o + N * 2 ≤ row.size := by
    rcases h with h | ⟨b, o, row, h1, h2, h3, h4, h5, h6⟩
    · rw [h] at hN
      simp at hN
      omega
    · rw [hN] at h5
      exact ⟨b, o, row, h1, h2, h3, h4, h5⟩
  have HG0 := Lib.hid hg0
  have hN8 : N ≤ 8000000 := by omega
  have HS0 := Lib.hid hs0
  rw [hN] at hk ⊢
  clear hN h hg0 hs0
  go_enter Try.func145, Try.ntmps145
  go_wp2_with fail
  go_loopw [1, 5] (fun u i wr => ∃ (m : Nat) (row : Array Value), i = .int .i64 (m : Int) ∧ u = .int .i64 ((k + 2 * m : Nat) : Int) ∧ m ≤ N ∧ Out lo hi w wr ∧ wr.heap[b]? = some (.cells row 142 (0, 0)) ∧ o + N * 2 ≤ row.size ∧
    (∀ j, j < m → ∀ c v, (vlL (markVl (k + 2 * j)))[c]? = some v → row[o + j * 2 + c]? = some v)) (fun _ i _ => N - (intOf i).toNat)
  case atStart => exact ⟨0, row0, rfl, rfl, by omega, Out.refl _ _ _, HG0.out, HS0.out, fun j hj => absurd hj (by omega)⟩
  case round =>
    obtain ⟨m, row, rfl, rfl, hm, hb, hgr, hrs, hdone⟩ := hrel
    have HD := Lib.hid hdone
    have HA := Lib.hid hgr
    have HB := Lib.hid hb
    have HRS := Lib.hid hrs
    clear hdone hgr hb HG0 HS0
    by_cases hmn : m < N
    · have hi1 : (0 : Int) ≤ (m : Int) := by omega
      have hi2 : (m : Int) < (N : Int) := by omega
      have hq : k + 2 * m + 2 ≤ 8000000 := by omega
      have hroom : o + m * 2 + 2 ≤ row.size := by omega
      have HK := Lib.hid (show k + 2 * (m + 1) = k + 2 * m + 2 by omega)
      obtain ⟨q, eq⟩ : ∃ q, k + 2 * m = q := ⟨_, rfl⟩
      have hq0 : 0 < q := by omega
      have HQ := Lib.hid eq
      rw [eq] at hq HK ⊢
      clear eq
      have w0_ : IntKind.i64.wrap (((q : Nat) : Int) + 1) = ((q + 1 : Nat) : Int) := by rw [IntWalk.i64_in _ (by omega)]; omega
      have w1_ : IntKind.i64.wrap (((q + 1 : Nat) : Int) + 1) = ((q + 2 : Nat) : Int) := by rw [IntWalk.i64_in _ (by omega)]; omega
      generalize e1_ : q + 1 = q1 at *
      generalize e2_ : q + 2 = q2 at *
      obtain ⟨p0, ep0⟩ : ∃ p, o + m * 2 = p := ⟨_, rfl⟩
      have HP := Lib.hid ep0
      obtain ⟨r1, er1⟩ : ∃ r, setAll row (p0) [.int .i64 (q : Int)] = r := ⟨_, rfl⟩
      have sr1 : r1.size = row.size := by rw [← er1, setAll_size]
      obtain ⟨r2, er2⟩ : ∃ r, setAll r1 (p0 + 1) [.int .i64 (q1 : Int)] = r := ⟨_, rfl⟩
      have sr2 : r2.size = row.size := by rw [← er2, setAll_size, sr1]
      have HER := Lib.hid (And.intro er1 er2)
      rw [ep0] at hroom
      have k0 : Nat.ble (p0 + 1) row.size = true := Nat.ble_eq_true_of_le (by omega)
      have k1 : Nat.ble (p0 + 1 + 1) r1.size = true := Nat.ble_eq_true_of_le (by omega)
      have HE := Lib.hid (And.intro e1_ e2_)
      clear er1 er2 e1_ e2_ hrs hk hroom hq sr1
      clear ep0
      go_wp2_with (first
        | (refine wpList_put_at rfl 2 (.tmp 16) (.tmp 14) rfl rfl b (o + m * 2) rfl (.int .i64 (q : Int)) rfl #[.int .i64 (q : Int)] rfl 142 row r1 HA.out (by kernel_rfl) (by rw [HP.out]; exact k0) rfl (by rw [HP.out]; exact HER.out.1) ?_; intro x1 g0 o0; have HA1 := Lib.hid g0; have HB1 := Lib.hid (HB.out.trans (o0.widen hlo hhi)); clear g0 o0)
        | (refine wpList_put_at rfl 2 (.tmp 23) (.tmp 21) rfl rfl b (o + m * 2 + 1) rfl (.int .i64 (q1 : Int)) rfl #[.int .i64 (q1 : Int)] rfl 142 r1 r2 HA1.out (by kernel_rfl) (by rw [HP.out]; exact k1) rfl (by rw [HP.out]; exact HER.out.2) ?_; intro x2 g1 o1; have HA2 := Lib.hid g1; have HB2 := Lib.hid (HB1.out.trans (o1.widen hlo hhi)); clear g1 o1))
      go_roundw
      case rel =>
        refine ⟨m + 1, r2, by go_num, by rw [HK.out], by omega, HB2.out, HA2.out, by rw [sr2]; exact HRS.out, fun j hj c v hv => ?_⟩
        obtain ⟨E1, E2⟩ := HER.out
        obtain ⟨F1, F2⟩ := HE.out
        have hp := HP.out
        have hrs2 := HRS.out
        have hc7 : c < 2 := by
          have := (List.getElem?_eq_some_iff.1 hv).1
          rwa [vlL_len] at this
        rcases Nat.lt_or_ge j m with h | h
        · have hlt : o + j * 2 + c < p0 := by omega
          rw [← E2, setAll_off _ _ _ _ (.inl (by omega)), ← E1, setAll_off _ _ _ _ (.inl (by omega))]
          exact HD.out j h c v hv
        · obtain rfl : j = m := by omega
          rw [HQ.out] at hv
          unfold markVl vlL at hv
          dsimp only at hv
          rw [F1] at hv
          rw [hp]
          have z : ∀ (rr : Array Value) (p : Nat) (u : Value), p < rr.size → (setAll rr p [u])[p]? = some u := fun rr p u hp => by
            have := setAll_at [u] rr p 0 u (by show p + 1 ≤ _; omega) rfl
            simpa using this
          have y : ∀ (rr : Array Value) (p p' : Nat) (u : Value), p' < p → (setAll rr p [u])[p']? = rr[p']? := fun rr p p' u hp => setAll_off _ _ _ _ (.inl hp)
          rcases c with _ | _ | c
          · simp at hv
            subst hv
            rw [← E2, y _ _ _ _ (by omega), ← E1]
            exact z _ _ _ (by have a0 := congrArg Array.size E1; have a1 := congrArg Array.size E2; rw [setAll_size] at a0 a1; omega)
          · simp at hv
            subst hv
            rw [← E2]
            exact z _ _ _ (by have a0 := congrArg Array.size E1; have a1 := congrArg Array.size E2; rw [setAll_size] at a0 a1; omega)
          · omega
      case measure => simp [intOf]; omega
    · have hge : N ≤ m := by omega
      go_wp2_with fail
      go_ret
      refine ⟨by rw [show N = m by omega]; rfl, .inr ⟨b, o, row, rfl, hlo, hhi, HA.out, by rw [marksVl_length]; exact HRS.out, fun i x hx c v hv => ?_⟩, HB.out⟩
      obtain ⟨hi', rfl⟩ := marksVl_at hx
      exact HD.out i (by omega) c v hv
set_option maxRecDepth 100000 in
set_option maxHeartbeats 8000000 in
theorem heldValueS_any {lo hi : Nat} (a : Option Addr) (cap : Nat) (N : Nat) (k : Nat) (w : World) (h : RsNew vlL 2 142 lo hi w a (marksVl k N)) (hk0 : 0 < k) (hk : k + 2 * N ≤ 8000000) :
    Calls Try.prog 146 #[.slice a N cap, .int .i64 (k : Int)] w fun e w' => e = .returned (.int .i64 ((k + 2 * N : Nat) : Int)) ∧ Below w.heap.size w w' := by
  have HI := Lib.hid h
  have hN8 : N ≤ 8000000 := by omega
  clear h
  go_enter Try.func146, Try.ntmps146
  go_wp2_with fail
  go_loopw [1, 5] (fun u i wr => ∃ m : Nat, i = .int .i64 (m : Int) ∧ u = .int .i64 ((k + 2 * m : Nat) : Int) ∧ m ≤ N ∧ Below w.heap.size w wr) (fun _ i _ => N - (intOf i).toNat)
  case atStart => exact ⟨0, rfl, rfl, by omega, Below.refl _ _⟩
  case round =>
    obtain ⟨m, rfl, rfl, hm, hb⟩ := hrel
    by_cases hmn : m < N
    · obtain ⟨b, o, row, rfl, _, _, hg, _, hc⟩ : ∃ b o row, a = some ⟨b, o, none⟩ ∧ lo ≤ b ∧ b < hi ∧ w.heap[b]? = some (.cells row 142 (0, 0)) ∧ o + (marksVl k N).length * 2 ≤ row.size ∧ ∀ (i : Nat) x, (marksVl k N)[i]? = some x → ∀ (j : Nat) v, (vlL x)[j]? = some v → row[o + i * 2 + j]? = some v := by
        rcases HI.out with h | h
        · have := marksVl_length k N
          rw [h] at this
          simp at this
          omega
        · exact h
      have hx := hc m _ (marksVl_get hmn)
      have hgw := (hb.block b (Array.getElem?_eq_some_iff.1 hg).1).trans hg
      have HG := Lib.hid hgw
      have hi1 : (0 : Int) ≤ (m : Int) := by omega
      have hi2 : (m : Int) < (N : Int) := by omega
      have HK := Lib.hid (show k + 2 * (m + 1) = k + 2 * m + 2 by omega)
      have hq : k + 2 * m + 2 ≤ 8000000 := by omega
      obtain ⟨q, eq⟩ : ∃ q, k + 2 * m = q := ⟨_, rfl⟩
      have hq0 : 0 < q := by omega
      rw [eq] at hq HK hx ⊢
      unfold markVl vlL at hx
      dsimp only at hx
      have c0 := hx 0 _ rfl
      have c1 := hx 1 _ rfl
      have w0_ : IntKind.i64.wrap (((q : Nat) : Int) + 1) = ((q + 1 : Nat) : Int) := by rw [IntWalk.i64_in _ (by omega)]; omega
      have w1_ : IntKind.i64.wrap (((q + 1 : Nat) : Int) + 1) = ((q + 2 : Nat) : Int) := by rw [IntWalk.i64_in _ (by omega)]; omega
      clear hx hc hg hgw hk hq hq0 eq
      rw [Nat.add_zero] at c0
      generalize q + 1 = q1 at *
      generalize q + 2 = q2 at *
      have n0 : ((q : Int) != (q : Int)) = false := by simp
      have n1 : ((q1 : Int) != (q1 : Int)) = false := by simp
      go_wp2_with (first
        | (refine wpList_load_one rfl 2 (.tmp 15) rfl b (o + m * 2) rfl 142 row (0, 0) HG.out _ c0 _ Try.underlying2 rfl (by kernel_rfl) ?_)
        | (refine wpList_load_one rfl 2 (.tmp 24) rfl b (o + m * 2 + 1) rfl 142 row (0, 0) HG.out _ c1 _ Try.underlying2 rfl (by kernel_rfl) ?_))
      go_roundw
      case rel => exact ⟨m + 1, by go_num, by rw [HK.out], by omega, hb⟩
      case measure => simp [intOf]; omega
    · have hge : N ≤ m := by omega
      go_wp2_with fail
      go_ret
      exact ⟨by rw [show N = m by omega]; rfl, hb⟩
end Go.Proofs.Ytanijfmfjabmfaa
