/- Rows of Fields: alike, marked, read again by the laws' own functions. Nothing that was there is written, but what is marked. -/
import Derived.Test.YtanijfmfjabmfaaRsOwn
import Derived.Test.YtanijfmfjabmfaaBitsLow
import Derived.Test.YtanijfmfjabmfaaNumsTo
import Derived.Test.YtanijfmfjabmfaaSess
import Derived.Test.YtanijfmfjabmfaaTab
namespace Go.Proofs.Ytanijfmfjabmfaa
open Go.RowKit
set_option linter.unusedVariables false

/-- One of them. -/
structure Fd where
  a : Int
  w : Int
  g : Bool
/-- Its cells. -/
def fdL (x : Fd) : List Value := [.int .i64 x.a, .int .i64 x.w, .bool x.g]
theorem fdL_len (x : Fd) : (fdL x).length = 3 := rfl
theorem fdL_one (x : Fd) : ∀ u ∈ fdL x, u.oneCell' = true := by
  intro u hu
  simp [fdL] at hu
  rcases hu with rfl | rfl | rfl <;> rfl
def fdAt (l : List Fd) (i : Nat) : Fd := l[i]?.getD ⟨0, 0, false⟩
theorem fdAt_some {l : List Fd} {i : Nat} (h : i < l.length) : l[i]? = some (fdAt l i) := by
  unfold fdAt
  rw [List.getElem?_eq_getElem h]
  rfl
theorem fdV_row (x : Fd) : fdV x.a x.w x.g = .agg (fdL x).toArray := rfl
set_option maxHeartbeats 1000000 in
theorem eqField_row (x : Fd) (W : World) :
    Calls Try.prog 189 #[.agg (fdL x).toArray, .agg (fdL x).toArray] W fun e W' => e = .returned (.bool true) ∧ Below W.heap.size W W' := by
  obtain ⟨a, w, g⟩ := x
  unfold fdL
  go_enter Try.func189, Try.ntmps189
  go_wp2
  go_ret
  exact ⟨rfl, ((Below.refl _ _).alloc (Nat.le_refl _) _).alloc (by simp) _⟩
set_option maxRecDepth 100000 in
set_option maxHeartbeats 2000000 in
theorem eqFieldS_same (a a' : Option Addr) (cap cap' : Nat) (l : List Fd) (w : World) (h : RsIn fdL 3 w a l) (h' : RsIn fdL 3 w a' l) (hlen : l.length ≤ 1048576) :
    Calls Try.prog 140 #[.slice a l.length cap, .slice a' l.length cap'] w fun e w' => e = .returned (.bool true) ∧ Below w.heap.size w w' := by
  obtain ⟨N, hN⟩ : ∃ N, l.length = N := ⟨_, rfl⟩
  have HN := Lib.hid hN
  have HI := Lib.hid h
  have HI' := Lib.hid h'
  rw [hN] at hlen ⊢
  clear hN h h'
  go_enter Try.func140, Try.ntmps140
  go_wp2_with fail
  go_loopw [5] (fun i wr => ∃ k : Nat, i = .int .i64 (k : Int) ∧ k ≤ N ∧ Below w.heap.size w wr) (fun i _ => N - (intOf i).toNat)
  case atStart => exact ⟨0, rfl, by omega, Below.refl _ _⟩
  case round =>
    obtain ⟨k, rfl, hk, hb⟩ := hrel
    by_cases hkn : k < N
    · have hkl : k < l.length := by have := HN.out; omega
      have hi1 : (0 : Int) ≤ (k : Int) := by omega
      have hi2 : (k : Int) < (N : Int) := by omega
      obtain ⟨b, o, rfl, hlt, hc⟩ := HI.out.at (by omega)
      obtain ⟨b', o', rfl, hlt', hc'⟩ := HI'.out.at (by omega)
      have lB : b < wr.heap.size := Nat.lt_of_lt_of_le hlt hb.size
      have lB' : b' < wr.heap.size := Nat.lt_of_lt_of_le hlt' hb.size
      have HC := Lib.hid (fun j v hv => (hb.cell (p := ⟨b, _, none⟩) hlt).trans (hc k _ (fdAt_some hkl) j v hv))
      have HC' := Lib.hid (fun j v hv => (hb.cell (p := ⟨b', _, none⟩) hlt').trans (hc' k _ (fdAt_some hkl) j v hv))
      clear hc hc'
      generalize fdAt l k = x at *
      go_wp2_with fail
      refine wp_region_quiet (C := fun W => Below wr.heap.size wr W) (by kernel_rfl) (by kernel_rfl) (Below.refl _ _).drew ?_
      dsimp only
      go_big_quiet_want; go_big_quiet_op; first | go_big_quiet_on | (refine ⟨_, fun _ _ => rfl, ?_⟩; go_big_quiet_on)
      go_big_quiet_want; go_big_quiet_op; first | go_big_quiet_on | (refine ⟨_, fun _ _ => rfl, ?_⟩; go_big_quiet_on)
      go_big_quiet_want; go_big_quiet_op; first | go_big_quiet_on | (refine ⟨_, fun _ _ => rfl, ?_⟩; go_big_quiet_on)
      go_big_quiet_want; refine ⟨.agg (fdL x).toArray, fun W hW => (quietLoadCells 77 (.tmp 19) rfl b (o + k * 3) rfl (fdL x) (grownCells lB HC.out hW) _ Try.underlying77 rfl (by kernel_rfl)), ?_⟩; simp only [Act.put, List.setIfInBounds_toArray, List.set_cons_zero, List.set_cons_succ]; go_big_quiet_on
      go_big_quiet_want; go_big_quiet_op; first | go_big_quiet_on | (refine ⟨_, fun _ _ => rfl, ?_⟩; go_big_quiet_on)
      go_big_quiet_want; go_big_quiet_op; first | go_big_quiet_on | (refine ⟨_, fun _ _ => rfl, ?_⟩; go_big_quiet_on)
      go_big_quiet_want; go_big_quiet_op; first | go_big_quiet_on | (refine ⟨_, fun _ _ => rfl, ?_⟩; go_big_quiet_on)
      go_big_quiet_want; refine ⟨.agg (fdL x).toArray, fun W hW => (quietLoadCells 77 (.tmp 23) rfl b' (o' + k * 3) rfl (fdL x) (grownCells lB' HC'.out hW) _ Try.underlying77 rfl (by kernel_rfl)), ?_⟩; simp only [Act.put, List.setIfInBounds_toArray, List.set_cons_zero, List.set_cons_succ]; go_big_quiet_on
      go_big_quiet_want; go_big_quiet_op; refine ⟨_, fun W hW => quietCall hW (eqField_row x W), ?_⟩; go_big_quiet_on
      go_big_quiet_want; go_big_quiet_op; first | go_big_quiet_on | (refine ⟨_, fun _ _ => rfl, ?_⟩; go_big_quiet_on)
      refine wpQuiet_nil ?_
      intro X hX
      go_wp2_with fail
      go_roundw
      case rel => exact ⟨k + 1, by go_num, by omega, hb.trans (hX.mono hb.size)⟩
      case measure => simp [intOf]; omega
    · go_wp2_with fail
      go_ret
      exact ⟨rfl, hb⟩
/-- The marks from q on. -/
def markFd (q : Nat) : Fd := ⟨((q : Nat) : Int), ((q + 1 : Nat) : Int), (((q + 2 : Nat) : Int) % 3 == 0)⟩
/-- m of them from k on. -/
def marksFd (k m : Nat) : List Fd := (List.range m).map fun i => markFd (k + 3 * i)
theorem marksFd_length (k m : Nat) : (marksFd k m).length = m := by simp [marksFd]
theorem marksFd_at {k m i : Nat} {x : Fd} (h : (marksFd k m)[i]? = some x) : i < m ∧ x = markFd (k + 3 * i) := by
  unfold marksFd at h
  rw [List.getElem?_map] at h
  obtain ⟨j, hj, rfl⟩ := Option.map_eq_some_iff.1 h
  obtain ⟨hi, rfl⟩ := List.getElem?_eq_some_iff.1 hj
  have hi' : i < m := by simpa using hi
  simp [hi']
theorem marksFd_get {k m i : Nat} (h : i < m) : (marksFd k m)[i]? = some (markFd (k + 3 * i)) := by
  unfold marksFd
  rw [List.getElem?_map, List.getElem?_range h]
  rfl
set_option maxRecDepth 100000 in
set_option maxHeartbeats 8000000 in
theorem markFieldS_any {lo hi : Nat} (a : Option Addr) (cap : Nat) (l : List Fd) (k : Nat) (w : World) (h : RsNew fdL 3 77 lo hi w a l) (hk0 : 0 < k) (hk : k + 3 * l.length ≤ 8000000) :
    Calls Try.prog 141 #[.slice a l.length cap, .int .i64 (k : Int)] w fun e w' => e = .returned (.int .i64 ((k + 3 * l.length : Nat) : Int)) ∧ RsNew fdL 3 77 lo hi w' a (marksFd k l.length) ∧ Out lo hi w w' := by
  obtain ⟨N, hN⟩ : ∃ N, l.length = N := ⟨_, rfl⟩
  have HN := Lib.hid hN
  rcases Nat.eq_zero_or_pos N with hN0 | hN0
  · rw [hN]
    subst hN0
    clear hN h
    go_enter Try.func141, Try.ntmps141
    go_wp2
    refine wp_loop_rounds 1 ?_
    rw [rounds_succ]; go_wp2
    go_ret
    exact ⟨rfl, .inl (by first | rfl | (simp [marksFd])), Out.refl _ _ _⟩
  obtain ⟨b, o, row0, rfl, hlo, hhi, hg0, hs0⟩ : ∃ b o row, a = some ⟨b, o, none⟩ ∧ lo ≤ b ∧ b < hi ∧ w.heap[b]? = some (.cells row 77 (0, 0)) ∧ o + N * 3 ≤ row.size := by
    rcases h with h | ⟨b, o, row, h1, h2, h3, h4, h5, h6⟩
    · rw [h] at hN
      simp at hN
      omega
    · rw [hN] at h5
      exact ⟨b, o, row, h1, h2, h3, h4, h5⟩
  have HG0 := Lib.hid hg0
  have hN8 : N ≤ 8000000 := by omega
  have HS0 := Lib.hid hs0
  rw [hN] at hk ⊢
  clear hN h hg0 hs0
  go_enter Try.func141, Try.ntmps141
  go_wp2_with fail
  go_loopw [1, 5] (fun u i wr => ∃ (m : Nat) (row : Array Value), i = .int .i64 (m : Int) ∧ u = .int .i64 ((k + 3 * m : Nat) : Int) ∧ m ≤ N ∧ Out lo hi w wr ∧ wr.heap[b]? = some (.cells row 77 (0, 0)) ∧ o + N * 3 ≤ row.size ∧
    (∀ j, j < m → ∀ c v, (fdL (markFd (k + 3 * j)))[c]? = some v → row[o + j * 3 + c]? = some v)) (fun _ i _ => N - (intOf i).toNat)
  case atStart => exact ⟨0, row0, rfl, rfl, by omega, Out.refl _ _ _, HG0.out, HS0.out, fun j hj => absurd hj (by omega)⟩
  case round =>
    obtain ⟨m, row, rfl, rfl, hm, hb, hgr, hrs, hdone⟩ := hrel
    have HD := Lib.hid hdone
    have HA := Lib.hid hgr
    have HB := Lib.hid hb
    have HRS := Lib.hid hrs
    clear hdone hgr hb HG0 HS0
    by_cases hmn : m < N
    · have hi1 : (0 : Int) ≤ (m : Int) := by omega
      have hi2 : (m : Int) < (N : Int) := by omega
      have hq : k + 3 * m + 3 ≤ 8000000 := by omega
      have hroom : o + m * 3 + 3 ≤ row.size := by omega
      have HK := Lib.hid (show k + 3 * (m + 1) = k + 3 * m + 3 by omega)
      obtain ⟨q, eq⟩ : ∃ q, k + 3 * m = q := ⟨_, rfl⟩
      have hq0 : 0 < q := by omega
      have HQ := Lib.hid eq
      rw [eq] at hq HK ⊢
      clear eq
      have w0_ : IntKind.i64.wrap (((q : Nat) : Int) + 1) = ((q + 1 : Nat) : Int) := by rw [IntWalk.i64_in _ (by omega)]; omega
      have w1_ : IntKind.i64.wrap (((q + 1 : Nat) : Int) + 1) = ((q + 2 : Nat) : Int) := by rw [IntWalk.i64_in _ (by omega)]; omega
      have w2_ : IntKind.i64.wrap (((q + 2 : Nat) : Int) + 1) = ((q + 3 : Nat) : Int) := by rw [IntWalk.i64_in _ (by omega)]; omega
      have m2_ : ((q + 2 : Nat) : Int).tmod 3 = ((q + 2 : Nat) : Int) % 3 := Int.tmod_eq_emod_of_nonneg (by omega)
      generalize e1_ : q + 1 = q1 at *
      generalize e2_ : q + 2 = q2 at *
      generalize e3_ : q + 3 = q3 at *
      obtain ⟨B2, eB2⟩ : ∃ B, (((q2 : Nat) : Int) % 3 == 0) = B := ⟨_, rfl⟩
      have HB2_ := Lib.hid eB2
      obtain ⟨p0, ep0⟩ : ∃ p, o + m * 3 = p := ⟨_, rfl⟩
      have HP := Lib.hid ep0
      obtain ⟨r1, er1⟩ : ∃ r, setAll row (p0) [.int .i64 (q : Int)] = r := ⟨_, rfl⟩
      have sr1 : r1.size = row.size := by rw [← er1, setAll_size]
      obtain ⟨r2, er2⟩ : ∃ r, setAll r1 (p0 + 1) [.int .i64 (q1 : Int)] = r := ⟨_, rfl⟩
      have sr2 : r2.size = row.size := by rw [← er2, setAll_size, sr1]
      obtain ⟨r3, er3⟩ : ∃ r, setAll r2 (p0 + 2) [.bool B2] = r := ⟨_, rfl⟩
      have sr3 : r3.size = row.size := by rw [← er3, setAll_size, sr2]
      have HER := Lib.hid (And.intro er1 (And.intro er2 er3))
      rw [ep0] at hroom
      have k0 : Nat.ble (p0 + 1) row.size = true := Nat.ble_eq_true_of_le (by omega)
      have k1 : Nat.ble (p0 + 1 + 1) r1.size = true := Nat.ble_eq_true_of_le (by omega)
      have k2 : Nat.ble (p0 + 2 + 1) r2.size = true := Nat.ble_eq_true_of_le (by omega)
      have HE := Lib.hid (And.intro e1_ (And.intro e2_ e3_))
      clear er1 er2 er3 e1_ e2_ e3_ hrs hk hroom hq sr1 sr2
      clear ep0
      go_wp2_with (first
        | (refine wpList_put_at rfl 2 (.tmp 16) (.tmp 14) rfl rfl b (o + m * 3) rfl (.int .i64 (q : Int)) rfl #[.int .i64 (q : Int)] rfl 77 row r1 HA.out (by kernel_rfl) (by rw [HP.out]; exact k0) rfl (by rw [HP.out]; exact HER.out.1) ?_; intro x1 g0 o0; have HA1 := Lib.hid g0; have HB1 := Lib.hid (HB.out.trans (o0.widen hlo hhi)); clear g0 o0)
        | (refine wpList_put_at rfl 2 (.tmp 23) (.tmp 21) rfl rfl b (o + m * 3 + 1) rfl (.int .i64 (q1 : Int)) rfl #[.int .i64 (q1 : Int)] rfl 77 r1 r2 HA1.out (by kernel_rfl) (by rw [HP.out]; exact k1) rfl (by rw [HP.out]; exact HER.out.2.1) ?_; intro x2 g1 o1; have HA2 := Lib.hid g1; have HB2 := Lib.hid (HB1.out.trans (o1.widen hlo hhi)); clear g1 o1)
        | (refine wpList_put_at rfl 4 (.tmp 32) (.tmp 30) rfl rfl b (o + m * 3 + 2) rfl (.bool B2) rfl #[.bool B2] rfl 77 r2 r3 HA2.out (by kernel_rfl) (by rw [HP.out]; exact k2) rfl (by rw [HP.out]; exact HER.out.2.2) ?_; intro x3 g2 o2; have HA3 := Lib.hid g2; have HB3 := Lib.hid (HB2.out.trans (o2.widen hlo hhi)); clear g2 o2))
      go_roundw
      case rel =>
        refine ⟨m + 1, r3, by go_num, by rw [HK.out], by omega, HB3.out, HA3.out, by rw [sr3]; exact HRS.out, fun j hj c v hv => ?_⟩
        obtain ⟨E1, E2, E3⟩ := HER.out
        obtain ⟨F1, F2, F3⟩ := HE.out
        have hp := HP.out
        have hrs2 := HRS.out
        have hc7 : c < 3 := by
          have := (List.getElem?_eq_some_iff.1 hv).1
          rwa [fdL_len] at this
        rcases Nat.lt_or_ge j m with h | h
        · have hlt : o + j * 3 + c < p0 := by omega
          rw [← E3, setAll_off _ _ _ _ (.inl (by omega)), ← E2, setAll_off _ _ _ _ (.inl (by omega)), ← E1, setAll_off _ _ _ _ (.inl (by omega))]
          exact HD.out j h c v hv
        · obtain rfl : j = m := by omega
          rw [HQ.out] at hv
          unfold markFd fdL at hv
          dsimp only at hv
          rw [F1, F2, HB2_.out] at hv
          rw [hp]
          have z : ∀ (rr : Array Value) (p : Nat) (u : Value), p < rr.size → (setAll rr p [u])[p]? = some u := fun rr p u hp => by
            have := setAll_at [u] rr p 0 u (by show p + 1 ≤ _; omega) rfl
            simpa using this
          have y : ∀ (rr : Array Value) (p p' : Nat) (u : Value), p' < p → (setAll rr p [u])[p']? = rr[p']? := fun rr p p' u hp => setAll_off _ _ _ _ (.inl hp)
          rcases c with _ | _ | _ | c
          · simp at hv
            subst hv
            rw [← E3, y _ _ _ _ (by omega), ← E2, y _ _ _ _ (by omega), ← E1]
            exact z _ _ _ (by have a0 := congrArg Array.size E1; have a1 := congrArg Array.size E2; have a2 := congrArg Array.size E3; rw [setAll_size] at a0 a1 a2; omega)
          · simp at hv
            subst hv
            rw [← E3, y _ _ _ _ (by omega), ← E2]
            exact z _ _ _ (by have a0 := congrArg Array.size E1; have a1 := congrArg Array.size E2; have a2 := congrArg Array.size E3; rw [setAll_size] at a0 a1 a2; omega)
          · simp at hv
            subst hv
            rw [← E3]
            exact z _ _ _ (by have a0 := congrArg Array.size E1; have a1 := congrArg Array.size E2; have a2 := congrArg Array.size E3; rw [setAll_size] at a0 a1 a2; omega)
          · omega
      case measure => simp [intOf]; omega
    · have hge : N ≤ m := by omega
      go_wp2_with fail
      go_ret
      refine ⟨by rw [show N = m by omega]; rfl, .inr ⟨b, o, row, rfl, hlo, hhi, HA.out, by rw [marksFd_length]; exact HRS.out, fun i x hx c v hv => ?_⟩, HB.out⟩
      obtain ⟨hi', rfl⟩ := marksFd_at hx
      exact HD.out i (by omega) c v hv
set_option maxRecDepth 100000 in
set_option maxHeartbeats 8000000 in
theorem heldFieldS_any {lo hi : Nat} (a : Option Addr) (cap : Nat) (N : Nat) (k : Nat) (w : World) (h : RsNew fdL 3 77 lo hi w a (marksFd k N)) (hk0 : 0 < k) (hk : k + 3 * N ≤ 8000000) :
    Calls Try.prog 142 #[.slice a N cap, .int .i64 (k : Int)] w fun e w' => e = .returned (.int .i64 ((k + 3 * N : Nat) : Int)) ∧ Below w.heap.size w w' := by
  have HI := Lib.hid h
  have hN8 : N ≤ 8000000 := by omega
  clear h
  go_enter Try.func142, Try.ntmps142
  go_wp2_with fail
  go_loopw [1, 5] (fun u i wr => ∃ m : Nat, i = .int .i64 (m : Int) ∧ u = .int .i64 ((k + 3 * m : Nat) : Int) ∧ m ≤ N ∧ Below w.heap.size w wr) (fun _ i _ => N - (intOf i).toNat)
  case atStart => exact ⟨0, rfl, rfl, by omega, Below.refl _ _⟩
  case round =>
    obtain ⟨m, rfl, rfl, hm, hb⟩ := hrel
    by_cases hmn : m < N
    · obtain ⟨b, o, row, rfl, _, _, hg, _, hc⟩ : ∃ b o row, a = some ⟨b, o, none⟩ ∧ lo ≤ b ∧ b < hi ∧ w.heap[b]? = some (.cells row 77 (0, 0)) ∧ o + (marksFd k N).length * 3 ≤ row.size ∧ ∀ (i : Nat) x, (marksFd k N)[i]? = some x → ∀ (j : Nat) v, (fdL x)[j]? = some v → row[o + i * 3 + j]? = some v := by
        rcases HI.out with h | h
        · have := marksFd_length k N
          rw [h] at this
          simp at this
          omega
        · exact h
      have hx := hc m _ (marksFd_get hmn)
      have hgw := (hb.block b (Array.getElem?_eq_some_iff.1 hg).1).trans hg
      have HG := Lib.hid hgw
      have hi1 : (0 : Int) ≤ (m : Int) := by omega
      have hi2 : (m : Int) < (N : Int) := by omega
      have HK := Lib.hid (show k + 3 * (m + 1) = k + 3 * m + 3 by omega)
      have hq : k + 3 * m + 3 ≤ 8000000 := by omega
      obtain ⟨q, eq⟩ : ∃ q, k + 3 * m = q := ⟨_, rfl⟩
      have hq0 : 0 < q := by omega
      rw [eq] at hq HK hx ⊢
      unfold markFd fdL at hx
      dsimp only at hx
      have c0 := hx 0 _ rfl
      have c1 := hx 1 _ rfl
      have c2 := hx 2 _ rfl
      have w0_ : IntKind.i64.wrap (((q : Nat) : Int) + 1) = ((q + 1 : Nat) : Int) := by rw [IntWalk.i64_in _ (by omega)]; omega
      have w1_ : IntKind.i64.wrap (((q + 1 : Nat) : Int) + 1) = ((q + 2 : Nat) : Int) := by rw [IntWalk.i64_in _ (by omega)]; omega
      have w2_ : IntKind.i64.wrap (((q + 2 : Nat) : Int) + 1) = ((q + 3 : Nat) : Int) := by rw [IntWalk.i64_in _ (by omega)]; omega
      have m2_ : ((q + 2 : Nat) : Int).tmod 3 = ((q + 2 : Nat) : Int) % 3 := Int.tmod_eq_emod_of_nonneg (by omega)
      clear hx hc hg hgw hk hq hq0 eq
      rw [Nat.add_zero] at c0
      generalize q + 1 = q1 at *
      generalize q + 2 = q2 at *
      generalize q + 3 = q3 at *
      obtain ⟨B2, eB2⟩ : ∃ B, (((q2 : Nat) : Int) % 3 == 0) = B := ⟨_, rfl⟩
      rw [eB2] at c2
      have n0 : ((q : Int) != (q : Int)) = false := by simp
      have n1 : ((q1 : Int) != (q1 : Int)) = false := by simp
      have n2 : (B2 != B2) = false := by simp
      go_wp2_with (first
        | (refine wpList_load_one rfl 2 (.tmp 15) rfl b (o + m * 3) rfl 77 row (0, 0) HG.out _ c0 _ Try.underlying2 rfl (by kernel_rfl) ?_)
        | (refine wpList_load_one rfl 2 (.tmp 24) rfl b (o + m * 3 + 1) rfl 77 row (0, 0) HG.out _ c1 _ Try.underlying2 rfl (by kernel_rfl) ?_)
        | (refine wpList_load_one rfl 4 (.tmp 33) rfl b (o + m * 3 + 2) rfl 77 row (0, 0) HG.out _ c2 _ Try.underlying4 rfl (by kernel_rfl) ?_))
      go_roundw
      case rel => exact ⟨m + 1, by go_num, by rw [HK.out], by omega, hb⟩
      case measure => simp [intOf]; omega
    · have hge : N ≤ m := by omega
      go_wp2_with fail
      go_ret
      exact ⟨by rw [show N = m by omega]; rfl, hb⟩
end Go.Proofs.Ytanijfmfjabmfaa
