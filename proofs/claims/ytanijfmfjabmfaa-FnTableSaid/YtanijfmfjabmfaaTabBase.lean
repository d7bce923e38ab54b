/- Several texts in one, each with its own head: what is proved, and of what, stands there. -/
import Derived.Test.YtanijfmfjabmfaaRsOwn
import Derived.Test.YtanijfmfjabmfaaBitsLow
import Derived.Test.YtanijfmfjabmfaaNumsTo
import Derived.Test.YtanijfmfjabmfaaSess
import Derived.Test.YtanijfmfjabmfaaTab
import Derived.Test.YtanijfmfjabmfaaOpenBits
import Derived.WalkMore
import Derived.Test.YtanijfmfjabmfaaRepeat
import Derived.Test.YtanijfmfjabmfaaFilled
import Derived.Test.YtanijfmfjabmfaaBitsVal
import Derived.Test.YtanijfmfjabmfaaLit
import Derived.Test.YtanijfmfjabmfaaRowsAt
import Derived.Test.YtanijfmfjabmfaaBitsPutI
import Derived.Test.YtanijfmfjabmfaaBitsSet
import Derived.Test.YtanijfmfjabmfaaBitsGetI
import Derived.Test.YtanijfmfjabmfaaBitsVal3
import Derived.Test.YtanijfmfjabmfaaBitsVal4
/- Rows of Fields: alike, marked, read again by the laws' own functions. Nothing that was there is written, but what is marked. -/
namespace Go.Proofs.Ytanijfmfjabmfaa
open Go.RowKit
set_option linter.unusedVariables false

/-- One of them. -/
structure Fd where
  a : Int
  w : Int
  g : Bool
/-- Its cells. -/
def fdL (x : Fd) : List Value := [.int .i64 x.a, .int .i64 x.w, .bool x.g]
theorem fdL_len (x : Fd) : (fdL x).length = 3 := rfl
theorem fdL_one (x : Fd) : ∀ u ∈ fdL x, u.oneCell' = true := by
  intro u hu
  simp [fdL] at hu
  rcases hu with rfl | rfl | rfl <;> rfl
def fdAt (l : List Fd) (i : Nat) : Fd := l[i]?.getD ⟨0, 0, false⟩
theorem fdAt_some {l : List Fd} {i : Nat} (h : i < l.length) : l[i]? = some (fdAt l i) := by
  unfold fdAt
  rw [List.getElem?_eq_getElem h]
  rfl
theorem fdV_row (x : Fd) : fdV x.a x.w x.g = .agg (fdL x).toArray := rfl
set_option maxHeartbeats 1000000 in
theorem eqField_row (x : Fd) (W : World) :
    Calls Try.prog 189 #[.agg (fdL x).toArray, .agg (fdL x).toArray] W fun e W' => e = .returned (.bool true) ∧ Below W.heap.size W W' := by
  obtain ⟨a, w, g⟩ := x
  unfold fdL
  go_enter Try.func189, Try.ntmps189
  go_wp2
  go_ret
  exact ⟨rfl, ((Below.refl _ _).alloc (Nat.le_refl _) _).alloc (by simp) _⟩
set_option maxRecDepth 100000 in
set_option maxHeartbeats 2000000 in
theorem eqFieldS_same (a a' : Option Addr) (cap cap' : Nat) (l : List Fd) (w : World) (h : RsIn fdL 3 w a l) (h' : RsIn fdL 3 w a' l) (hlen : l.length ≤ 1048576) :
    Calls Try.prog 140 #[.slice a l.length cap, .slice a' l.length cap'] w fun e w' => e = .returned (.bool true) ∧ Below w.heap.size w w' := by
  obtain ⟨N, hN⟩ : ∃ N, l.length = N := ⟨_, rfl⟩
  have HN := Lib.hid hN
  have HI := Lib.hid h
  have HI' := Lib.hid h'
  rw [hN] at hlen ⊢
  clear hN h h'
  go_enter Try.func140, Try.ntmps140
  go_wp2_with fail
  go_loopw [5] (fun i wr => ∃ k : Nat, i = .int .i64 (k : Int) ∧ k ≤ N ∧ Below w.heap.size w wr) (fun i _ => N - (intOf i).toNat)
  case atStart => exact ⟨0, rfl, by omega, Below.refl _ _⟩
  case round =>
    obtain ⟨k, rfl, hk, hb⟩ := hrel
    by_cases hkn : k < N
    · have hkl : k < l.length := by have := HN.out; omega
      have hi1 : (0 : Int) ≤ (k : Int) := by omega
      have hi2 : (k : Int) < (N : Int) := by omega
      obtain ⟨b, o, rfl, hlt, hc⟩ := HI.out.at (by omega)
      obtain ⟨b', o', rfl, hlt', hc'⟩ := HI'.out.at (by omega)
      have lB : b < wr.heap.size := Nat.lt_of_lt_of_le hlt hb.size
      have lB' : b' < wr.heap.size := Nat.lt_of_lt_of_le hlt' hb.size
      have HC := Lib.hid (fun j v hv => (hb.cell (p := ⟨b, _, none⟩) hlt).trans (hc k _ (fdAt_some hkl) j v hv))
      have HC' := Lib.hid (fun j v hv => (hb.cell (p := ⟨b', _, none⟩) hlt').trans (hc' k _ (fdAt_some hkl) j v hv))
      clear hc hc'
      generalize fdAt l k = x at *
      go_wp2_with fail
      refine wp_region_quiet (C := fun W => Below wr.heap.size wr W) (by kernel_rfl) (by kernel_rfl) (Below.refl _ _).drew ?_
      dsimp only
      go_big_quiet_want; go_big_quiet_op; first | go_big_quiet_on | (refine ⟨_, fun _ _ => rfl, ?_⟩; go_big_quiet_on)
      go_big_quiet_want; go_big_quiet_op; first | go_big_quiet_on | (refine ⟨_, fun _ _ => rfl, ?_⟩; go_big_quiet_on)
      go_big_quiet_want; go_big_quiet_op; first | go_big_quiet_on | (refine ⟨_, fun _ _ => rfl, ?_⟩; go_big_quiet_on)
      go_big_quiet_want; refine ⟨.agg (fdL x).toArray, fun W hW => (quietLoadCells 77 (.tmp 19) rfl b (o + k * 3) rfl (fdL x) (grownCells lB HC.out hW) _ Try.underlying77 rfl (by kernel_rfl)), ?_⟩; simp only [Act.put, List.setIfInBounds_toArray, List.set_cons_zero, List.set_cons_succ]; go_big_quiet_on
      go_big_quiet_want; go_big_quiet_op; first | go_big_quiet_on | (refine ⟨_, fun _ _ => rfl, ?_⟩; go_big_quiet_on)
      go_big_quiet_want; go_big_quiet_op; first | go_big_quiet_on | (refine ⟨_, fun _ _ => rfl, ?_⟩; go_big_quiet_on)
      go_big_quiet_want; go_big_quiet_op; first | go_big_quiet_on | (refine ⟨_, fun _ _ => rfl, ?_⟩; go_big_quiet_on)
      go_big_quiet_want; refine ⟨.agg (fdL x).toArray, fun W hW => (quietLoadCells 77 (.tmp 23) rfl b' (o' + k * 3) rfl (fdL x) (grownCells lB' HC'.out hW) _ Try.underlying77 rfl (by kernel_rfl)), ?_⟩; simp only [Act.put, List.setIfInBounds_toArray, List.set_cons_zero, List.set_cons_succ]; go_big_quiet_on
      go_big_quiet_want; go_big_quiet_op; refine ⟨_, fun W hW => quietCall hW (eqField_row x W), ?_⟩; go_big_quiet_on
      go_big_quiet_want; go_big_quiet_op; first | go_big_quiet_on | (refine ⟨_, fun _ _ => rfl, ?_⟩; go_big_quiet_on)
      refine wpQuiet_nil ?_
      intro X hX
      go_wp2_with fail
      go_roundw
      case rel => exact ⟨k + 1, by go_num, by omega, hb.trans (hX.mono hb.size)⟩
      case measure => simp [intOf]; omega
    · go_wp2_with fail
      go_ret
      exact ⟨rfl, hb⟩
/-- The marks from q on. -/
def markFd (q : Nat) : Fd := ⟨((q : Nat) : Int), ((q + 1 : Nat) : Int), (((q + 2 : Nat) : Int) % 3 == 0)⟩
/-- m of them from k on. -/
def marksFd (k m : Nat) : List Fd := (List.range m).map fun i => markFd (k + 3 * i)
theorem marksFd_length (k m : Nat) : (marksFd k m).length = m := by simp [marksFd]
theorem marksFd_at {k m i : Nat} {x : Fd} (h : (marksFd k m)[i]? = some x) : i < m ∧ x = markFd (k + 3 * i) := by
  unfold marksFd at h
  rw [List.getElem?_map] at h
  obtain ⟨j, hj, rfl⟩ := Option.map_eq_some_iff.1 h
  obtain ⟨hi, rfl⟩ := List.getElem?_eq_some_iff.1 hj
  have hi' : i < m := by simpa using hi
  simp [hi']
theorem marksFd_get {k m i : Nat} (h : i < m) : (marksFd k m)[i]? = some (markFd (k + 3 * i)) := by
  unfold marksFd
  rw [List.getElem?_map, List.getElem?_range h]
  rfl
set_option maxRecDepth 100000 in
set_option maxHeartbeats 8000000 in
theorem markFieldS_any {lo hi : Nat} (a : Option Addr) (cap : Nat) (l : List Fd) (k : Nat) (w : World) (h : RsNew fdL 3 77 lo hi w a l) (hk0 : 0 < k) (hk : k + 3 * l.length ≤ 8000000) :
    Calls Try.prog 141 #[.slice a l.length cap, .int .i64 (k : Int)] w fun e w' => e = .returned (.int .i64 ((k + 3 * l.length : Nat) : Int)) ∧ RsNew fdL 3 77 lo hi w' a (marksFd k l.length) ∧ Out lo hi w w' := by
  obtain ⟨N, hN⟩ : ∃ N, l.length = N := ⟨_, rfl⟩
  have HN := Lib.hid hN
  rcases Nat.eq_zero_or_pos N with hN0 | hN0
  · rw [hN]
    subst hN0
    clear hN h
    go_enter Try.func141, Try.ntmps141
    go_wp2
    refine wp_loop_rounds 1 ?_
    rw [rounds_succ]; go_wp2
    go_ret
    exact ⟨rfl, .inl (by first | rfl | (simp [marksFd])), Out.refl _ _ _⟩
  obtain ⟨b, o, row0, rfl, hlo, hhi, hg0, hs0⟩ : ∃ b o row, a = some ⟨b, o, none⟩ ∧ lo ≤ b ∧ b < hi ∧ w.heap[b]? = some (.cells row 77 (0, 0)) ∧ o + N * 3 ≤ row.size := by
    rcases h with h | ⟨b, o, row, h1, h2, h3, h4, h5, h6⟩
    · rw [h] at hN
      simp at hN
      omega
    · rw [hN] at h5
      exact ⟨b, o, row, h1, h2, h3, h4, h5⟩
  have HG0 := Lib.hid hg0
  have hN8 : N ≤ 8000000 := by omega
  have HS0 := Lib.hid hs0
  rw [hN] at hk ⊢
  clear hN h hg0 hs0
  go_enter Try.func141, Try.ntmps141
  go_wp2_with fail
  go_loopw [1, 5] (fun u i wr => ∃ (m : Nat) (row : Array Value), i = .int .i64 (m : Int) ∧ u = .int .i64 ((k + 3 * m : Nat) : Int) ∧ m ≤ N ∧ Out lo hi w wr ∧ wr.heap[b]? = some (.cells row 77 (0, 0)) ∧ o + N * 3 ≤ row.size ∧
    (∀ j, j < m → ∀ c v, (fdL (markFd (k + 3 * j)))[c]? = some v → row[o + j * 3 + c]? = some v)) (fun _ i _ => N - (intOf i).toNat)
  case atStart => exact ⟨0, row0, rfl, rfl, by omega, Out.refl _ _ _, HG0.out, HS0.out, fun j hj => absurd hj (by omega)⟩
  case round =>
    obtain ⟨m, row, rfl, rfl, hm, hb, hgr, hrs, hdone⟩ := hrel
    have HD := Lib.hid hdone
    have HA := Lib.hid hgr
    have HB := Lib.hid hb
    have HRS := Lib.hid hrs
    clear hdone hgr hb HG0 HS0
    by_cases hmn : m < N
    · have hi1 : (0 : Int) ≤ (m : Int) := by omega
      have hi2 : (m : Int) < (N : Int) := by omega
      have hq : k + 3 * m + 3 ≤ 8000000 := by omega
      have hroom : o + m * 3 + 3 ≤ row.size := by omega
      have HK := Lib.hid (show k + 3 * (m + 1) = k + 3 * m + 3 by omega)
      obtain ⟨q, eq⟩ : ∃ q, k + 3 * m = q := ⟨_, rfl⟩
      have hq0 : 0 < q := by omega
      have HQ := Lib.hid eq
      rw [eq] at hq HK ⊢
      clear eq
      have w0_ : IntKind.i64.wrap (((q : Nat) : Int) + 1) = ((q + 1 : Nat) : Int) := by rw [IntWalk.i64_in _ (by omega)]; omega
      have w1_ : IntKind.i64.wrap (((q + 1 : Nat) : Int) + 1) = ((q + 2 : Nat) : Int) := by rw [IntWalk.i64_in _ (by omega)]; omega
      have w2_ : IntKind.i64.wrap (((q + 2 : Nat) : Int) + 1) = ((q + 3 : Nat) : Int) := by rw [IntWalk.i64_in _ (by omega)]; omega
      have m2_ : ((q + 2 : Nat) : Int).tmod 3 = ((q + 2 : Nat) : Int) % 3 := Int.tmod_eq_emod_of_nonneg (by omega)
      generalize e1_ : q + 1 = q1 at *
      generalize e2_ : q + 2 = q2 at *
      generalize e3_ : q + 3 = q3 at *
      obtain ⟨B2, eB2⟩ : ∃ B, (((q2 : Nat) : Int) % 3 == 0) = B := ⟨_, rfl⟩
      have HB2_ := Lib.hid eB2
      obtain ⟨p0, ep0⟩ : ∃ p, o + m * 3 = p := ⟨_, rfl⟩
      have HP := Lib.hid ep0
      obtain ⟨r1, er1⟩ : ∃ r, setAll row (p0) [.int .i64 (q : Int)] = r := ⟨_, rfl⟩
      have sr1 : r1.size = row.size := by rw [← er1, setAll_size]
      obtain ⟨r2, er2⟩ : ∃ r, setAll r1 (p0 + 1) [.int .i64 (q1 : Int)] = r := ⟨_, rfl⟩
      have sr2 : r2.size = row.size := by rw [← er2, setAll_size, sr1]
      obtain ⟨r3, er3⟩ : ∃ r, setAll r2 (p0 + 2) [.bool B2] = r := ⟨_, rfl⟩
      have sr3 : r3.size = row.size := by rw [← er3, setAll_size, sr2]
      have HER := Lib.hid (And.intro er1 (And.intro er2 er3))
      rw [ep0] at hroom
      have k0 : Nat.ble (p0 + 1) row.size = true := Nat.ble_eq_true_of_le (by omega)
      have k1 : Nat.ble (p0 + 1 + 1) r1.size = true := Nat.ble_eq_true_of_le (by omega)
      have k2 : Nat.ble (p0 + 2 + 1) r2.size = true := Nat.ble_eq_true_of_le (by omega)
      have HE := Lib.hid (And.intro e1_ (And.intro e2_ e3_))
      clear er1 er2 er3 e1_ e2_ e3_ hrs hk hroom hq sr1 sr2
      clear ep0
      go_wp2_with (first
        | (refine wpList_put_at rfl 2 (.tmp 16) (.tmp 14) rfl rfl b (o + m * 3) rfl (.int .i64 (q : Int)) rfl #[.int .i64 (q : Int)] rfl 77 row r1 HA.out (by kernel_rfl) (by rw [HP.out]; exact k0) rfl (by rw [HP.out]; exact HER.out.1) ?_; intro x1 g0 o0; have HA1 := Lib.hid g0; have HB1 := Lib.hid (HB.out.trans (o0.widen hlo hhi)); clear g0 o0)
        | (refine wpList_put_at rfl 2 (.tmp 23) (.tmp 21) rfl rfl b (o + m * 3 + 1) rfl (.int .i64 (q1 : Int)) rfl #[.int .i64 (q1 : Int)] rfl 77 r1 r2 HA1.out (by kernel_rfl) (by rw [HP.out]; exact k1) rfl (by rw [HP.out]; exact HER.out.2.1) ?_; intro x2 g1 o1; have HA2 := Lib.hid g1; have HB2 := Lib.hid (HB1.out.trans (o1.widen hlo hhi)); clear g1 o1)
        | (refine wpList_put_at rfl 4 (.tmp 32) (.tmp 30) rfl rfl b (o + m * 3 + 2) rfl (.bool B2) rfl #[.bool B2] rfl 77 r2 r3 HA2.out (by kernel_rfl) (by rw [HP.out]; exact k2) rfl (by rw [HP.out]; exact HER.out.2.2) ?_; intro x3 g2 o2; have HA3 := Lib.hid g2; have HB3 := Lib.hid (HB2.out.trans (o2.widen hlo hhi)); clear g2 o2))
      go_roundw
      case rel =>
        refine ⟨m + 1, r3, by go_num, by rw [HK.out], by omega, HB3.out, HA3.out, by rw [sr3]; exact HRS.out, fun j hj c v hv => ?_⟩
        obtain ⟨E1, E2, E3⟩ := HER.out
        obtain ⟨F1, F2, F3⟩ := HE.out
        have hp := HP.out
        have hrs2 := HRS.out
        have hc7 : c < 3 := by
          have := (List.getElem?_eq_some_iff.1 hv).1
          rwa [fdL_len] at this
        rcases Nat.lt_or_ge j m with h | h
        · have hlt : o + j * 3 + c < p0 := by omega
          rw [← E3, setAll_off _ _ _ _ (.inl (by omega)), ← E2, setAll_off _ _ _ _ (.inl (by omega)), ← E1, setAll_off _ _ _ _ (.inl (by omega))]
          exact HD.out j h c v hv
        · obtain rfl : j = m := by omega
          rw [HQ.out] at hv
          unfold markFd fdL at hv
          dsimp only at hv
          rw [F1, F2, HB2_.out] at hv
          rw [hp]
          have z : ∀ (rr : Array Value) (p : Nat) (u : Value), p < rr.size → (setAll rr p [u])[p]? = some u := fun rr p u hp => by
            have := setAll_at [u] rr p 0 u (by show p + 1 ≤ _; omega) rfl
            simpa using this
          have y : ∀ (rr : Array Value) (p p' : Nat) (u : Value), p' < p → (setAll rr p [u])[p']? = rr[p']? := fun rr p p' u hp => setAll_off _ _ _ _ (.inl hp)
          rcases c with _ | _ | _ | c
          · simp at hv
            subst hv
            rw [← E3, y _ _ _ _ (by omega), ← E2, y _ _ _ _ (by omega), ← E1]
            exact z _ _ _ (by have a0 := congrArg Array.size E1; have a1 := congrArg Array.size E2; have a2 := congrArg Array.size E3; rw [setAll_size] at a0 a1 a2; omega)
          · simp at hv
            subst hv
            rw [← E3, y _ _ _ _ (by omega), ← E2]
            exact z _ _ _ (by have a0 := congrArg Array.size E1; have a1 := congrArg Array.size E2; have a2 := congrArg Array.size E3; rw [setAll_size] at a0 a1 a2; omega)
          · simp at hv
            subst hv
            rw [← E3]
            exact z _ _ _ (by have a0 := congrArg Array.size E1; have a1 := congrArg Array.size E2; have a2 := congrArg Array.size E3; rw [setAll_size] at a0 a1 a2; omega)
          · omega
      case measure => simp [intOf]; omega
    · have hge : N ≤ m := by omega
      go_wp2_with fail
      go_ret
      refine ⟨by rw [show N = m by omega]; rfl, .inr ⟨b, o, row, rfl, hlo, hhi, HA.out, by rw [marksFd_length]; exact HRS.out, fun i x hx c v hv => ?_⟩, HB.out⟩
      obtain ⟨hi', rfl⟩ := marksFd_at hx
      exact HD.out i (by omega) c v hv
set_option maxRecDepth 100000 in
set_option maxHeartbeats 8000000 in
theorem heldFieldS_any {lo hi : Nat} (a : Option Addr) (cap : Nat) (N : Nat) (k : Nat) (w : World) (h : RsNew fdL 3 77 lo hi w a (marksFd k N)) (hk0 : 0 < k) (hk : k + 3 * N ≤ 8000000) :
    Calls Try.prog 142 #[.slice a N cap, .int .i64 (k : Int)] w fun e w' => e = .returned (.int .i64 ((k + 3 * N : Nat) : Int)) ∧ Below w.heap.size w w' := by
  have HI := Lib.hid h
  have hN8 : N ≤ 8000000 := by omega
  clear h
  go_enter Try.func142, Try.ntmps142
  go_wp2_with fail
  go_loopw [1, 5] (fun u i wr => ∃ m : Nat, i = .int .i64 (m : Int) ∧ u = .int .i64 ((k + 3 * m : Nat) : Int) ∧ m ≤ N ∧ Below w.heap.size w wr) (fun _ i _ => N - (intOf i).toNat)
  case atStart => exact ⟨0, rfl, rfl, by omega, Below.refl _ _⟩
  case round =>
    obtain ⟨m, rfl, rfl, hm, hb⟩ := hrel
    by_cases hmn : m < N
    · obtain ⟨b, o, row, rfl, _, _, hg, _, hc⟩ : ∃ b o row, a = some ⟨b, o, none⟩ ∧ lo ≤ b ∧ b < hi ∧ w.heap[b]? = some (.cells row 77 (0, 0)) ∧ o + (marksFd k N).length * 3 ≤ row.size ∧ ∀ (i : Nat) x, (marksFd k N)[i]? = some x → ∀ (j : Nat) v, (fdL x)[j]? = some v → row[o + i * 3 + j]? = some v := by
        rcases HI.out with h | h
        · have := marksFd_length k N
          rw [h] at this
          simp at this
          omega
        · exact h
      have hx := hc m _ (marksFd_get hmn)
      have hgw := (hb.block b (Array.getElem?_eq_some_iff.1 hg).1).trans hg
      have HG := Lib.hid hgw
      have hi1 : (0 : Int) ≤ (m : Int) := by omega
      have hi2 : (m : Int) < (N : Int) := by omega
      have HK := Lib.hid (show k + 3 * (m + 1) = k + 3 * m + 3 by omega)
      have hq : k + 3 * m + 3 ≤ 8000000 := by omega
      obtain ⟨q, eq⟩ : ∃ q, k + 3 * m = q := ⟨_, rfl⟩
      have hq0 : 0 < q := by omega
      rw [eq] at hq HK hx ⊢
      unfold markFd fdL at hx
      dsimp only at hx
      have c0 := hx 0 _ rfl
      have c1 := hx 1 _ rfl
      have c2 := hx 2 _ rfl
      have w0_ : IntKind.i64.wrap (((q : Nat) : Int) + 1) = ((q + 1 : Nat) : Int) := by rw [IntWalk.i64_in _ (by omega)]; omega
      have w1_ : IntKind.i64.wrap (((q + 1 : Nat) : Int) + 1) = ((q + 2 : Nat) : Int) := by rw [IntWalk.i64_in _ (by omega)]; omega
      have w2_ : IntKind.i64.wrap (((q + 2 : Nat) : Int) + 1) = ((q + 3 : Nat) : Int) := by rw [IntWalk.i64_in _ (by omega)]; omega
      have m2_ : ((q + 2 : Nat) : Int).tmod 3 = ((q + 2 : Nat) : Int) % 3 := Int.tmod_eq_emod_of_nonneg (by omega)
      clear hx hc hg hgw hk hq hq0 eq
      rw [Nat.add_zero] at c0
      generalize q + 1 = q1 at *
      generalize q + 2 = q2 at *
      generalize q + 3 = q3 at *
      obtain ⟨B2, eB2⟩ : ∃ B, (((q2 : Nat) : Int) % 3 == 0) = B := ⟨_, rfl⟩
      rw [eB2] at c2
      have n0 : ((q : Int) != (q : Int)) = false := by simp
      have n1 : ((q1 : Int) != (q1 : Int)) = false := by simp
      have n2 : (B2 != B2) = false := by simp
      go_wp2_with (first
        | (refine wpList_load_one rfl 2 (.tmp 15) rfl b (o + m * 3) rfl 77 row (0, 0) HG.out _ c0 _ Try.underlying2 rfl (by kernel_rfl) ?_)
        | (refine wpList_load_one rfl 2 (.tmp 24) rfl b (o + m * 3 + 1) rfl 77 row (0, 0) HG.out _ c1 _ Try.underlying2 rfl (by kernel_rfl) ?_)
        | (refine wpList_load_one rfl 4 (.tmp 33) rfl b (o + m * 3 + 2) rfl 77 row (0, 0) HG.out _ c2 _ Try.underlying4 rfl (by kernel_rfl) ?_))
      go_roundw
      case rel => exact ⟨m + 1, by go_num, by rw [HK.out], by omega, hb⟩
      case measure => simp [intOf]; omega
    · have hge : N ≤ m := by omega
      go_wp2_with fail
      go_ret
      exact ⟨by rw [show N = m by omega]; rfl, hb⟩
end Go.Proofs.Ytanijfmfjabmfaa
/- Rows of Values: their size, a copy, alike, marked, read again by the laws' own functions. Nothing that was there is written, but what is marked. -/
namespace Go.Proofs.Ytanijfmfjabmfaa
open Go.RowKit
set_option linter.unusedVariables false

/-- One of them. -/
structure Vl where
  k : Int
  v : Int
/-- Its cells. -/
def vlL (x : Vl) : List Value := [.int .i64 x.k, .int .i64 x.v]
theorem vlL_len (x : Vl) : (vlL x).length = 2 := rfl
theorem vlL_one (x : Vl) : ∀ u ∈ vlL x, u.oneCell' = true := by
  intro u hu
  simp [vlL] at hu
  rcases hu with rfl | rfl <;> rfl
def vlAt (l : List Vl) (i : Nat) : Vl := l[i]?.getD ⟨0, 0⟩
theorem vlAt_some {l : List Vl} {i : Nat} (h : i < l.length) : l[i]? = some (vlAt l i) := by
  unfold vlAt
  rw [List.getElem?_eq_getElem h]
  rfl
theorem vlV_row (x : Vl) : vlV x.k x.v = .agg (vlL x).toArray := rfl
theorem szValueS_any (a : Option Addr) (cap n : Nat) (w : World) (hn : n ≤ maxLen) :
    Calls Try.prog 69 #[.slice a n cap, .int .i64 1048576] w fun e w' => ∃ m : Int, e = .returned (.int .i64 m) ∧ (0 ≤ m → n ≤ 1048576) ∧ Below w.heap.size w w' := by
  unfold maxLen at hn
  have hw : IntKind.i64.wrap (1048576 - (n : Int)) = 1048576 - n := IntWalk.i64_in _ (by omega)
  by_cases hbig : 1048576 < n
  · have hd : decide ((1048576 : Int) - (n : Int) < 0) = true := decide_eq_true (by omega)
    go_enter Try.func69, Try.ntmps69
    go_wp2_with fail
    go_ret
    exact ⟨-1, rfl, fun q => absurd q (by omega), Below.refl _ _⟩
  · have hd : decide ((1048576 : Int) - (n : Int) < 0) = false := decide_eq_false (by omega)
    go_enter Try.func69, Try.ntmps69
    go_wp2_with fail
    go_ret
    exact ⟨_, rfl, fun _ => by omega, Below.refl _ _⟩
set_option maxHeartbeats 1000000 in
theorem toValue_row (x : Vl) (W : World) :
    Calls Try.prog 143 #[.agg (vlL x).toArray] W fun e W' => e = .returned (.agg (vlL x).toArray) ∧ Below W.heap.size W W' := by
  obtain ⟨k, v⟩ := x
  unfold vlL
  go_enter Try.func143, Try.ntmps143
  go_wp2
  exact bodyPost_ret (v := .agg #[.int .i64 k, .int .i64 v]) (by simp [results, Try.results143, go_sem]) rfl ⟨rfl, (((Below.refl _ _).alloc (Nat.le_refl _) _).alloc (by simp) _).alloc (by simp; omega) _⟩
theorem ValueTo.info : (Try.prog.info? 142).map (fun i => (i.zero, i.size, i.bytes)) = some (some (.agg #[.int .i64 0, .int .i64 0]), 2, 16) := by kernel_rfl
set_option maxRecDepth 100000 in
set_option maxHeartbeats 2000000 in
theorem toValueS_new (a : Option Addr) (cap : Nat) (l : List Vl) (w : World) (h : RsIn vlL 2 w a l) (hlen : l.length ≤ 1048576) :
    Calls Try.prog 70 #[.slice a l.length cap] w fun e w' => ∃ a', e = .returned (.slice a' l.length l.length) ∧ RsNew vlL 2 142 w.heap.size w'.heap.size w' a' l ∧ Below w.heap.size w w' := by
  obtain ⟨i0, hi, hz0, hz1, hz2⟩ := info_parts ValueTo.info
  obtain ⟨N, hN⟩ : ∃ N, l.length = N := ⟨_, rfl⟩
  have HN := Lib.hid hN
  have HH := Lib.hid h
  rw [hN] at hlen ⊢
  clear hN h
  go_enter Try.func70, Try.ntmps70
  go_wp2_with (at_make; refine wpList_make_full _ rfl (.tmp 6) (.tmp 6) 61 rfl w.heap.size 142 i0 (.agg #[.int .i64 0, .int .i64 0]) 2 Try.underlying61 hi hz0 hz1 .i64 .i64 (N : Int) (N : Int) N (by rfl) (by rfl) (by omega) (by omega) (by rw [hz2]; omega) (by unfold maxLen; omega) (Nat.le_refl _) ?_; intro w1 hown hgrow)
  have hb1 : Below w.heap.size w w1 := (Below.refl _ _).grown hgrow (Nat.le_refl _) (fun _ h => by cases h)
  rcases Nat.eq_zero_or_pos N with hN0 | hN0
  · subst hN0
    have hl : l = [] := List.eq_nil_of_length_eq_zero HN.out
    clear hown hgrow
    refine wp_loop_rounds 1 ?_
    rw [rounds_succ]; go_wp2
    go_ret
    exact ⟨_, rfl, .inl (by first | exact hl | rfl), hb1⟩
  obtain ⟨row0, hg0, hs0⟩ : ∃ row0, w1.heap[w.heap.size]? = some (.cells row0 142 (0, 0)) ∧ row0.size = N * 2 := by
    rcases hown.2 with ⟨h', _⟩ | ⟨g', cap', cur, h', _, hg, _, _, hc, _⟩
    · simp at h'
    · simp only [Value.slice.injEq, Option.some.injEq, Addr.mk.injEq, and_true, true_and] at h'
      obtain ⟨rfl, rfl⟩ := h'
      exact ⟨cur, hg, hc⟩
  have HG0 := Lib.hid hg0
  have HS0 := Lib.hid hs0
  clear hown hgrow hg0 hs0
  obtain ⟨b, o, rfl, hlt, hc⟩ := HH.out.at (by have := HN.out; omega)
  have HI := Lib.hid hc
  clear hc HH
  go_loopw [4] (fun i wr => ∃ (k : Nat) (row : Array Value), i = .int .i64 (k : Int) ∧ k ≤ N ∧ Below w.heap.size w wr ∧ wr.heap[w.heap.size]? = some (.cells row 142 (0, 0)) ∧ row.size = N * 2 ∧
    (∀ j, j < k → ∀ c v, (vlL (vlAt l j))[c]? = some v → row[j * 2 + c]? = some v)) (fun i _ => N - (intOf i).toNat)
  case atStart => exact ⟨0, row0, rfl, by omega, hb1, HG0.out, HS0.out, fun j hj => absurd hj (by omega)⟩
  case round =>
    obtain ⟨k, row, rfl, hk, hb, hgr, hrs, hdone⟩ := hrel
    have HD := Lib.hid hdone
    have HR := Lib.hid hgr
    have HRs := Lib.hid hrs
    have hsz : w.heap.size < wr.heap.size := (Array.getElem?_eq_some_iff.1 hgr).1
    clear hdone hgr hrs
    by_cases hkn : k < N
    · have hkl : k < l.length := by have := HN.out; omega
      have hi1 : (0 : Int) ≤ (k : Int) := by omega
      have hi2 : (k : Int) < (N : Int) := by omega
      have HCs := Lib.hid (fun j v hv => (hb.cell (p := ⟨b, _, none⟩) hlt).trans (HI.out k _ (vlAt_some hkl) j v hv))
      go_wp2_with (refine wpList_load_cells rfl 162 (.tmp 18) rfl b (o + k * 2) rfl (vlL (vlAt l k)) HCs.out _ Try.underlying162 rfl (by kernel_rfl) ?_)
      refine (toValue_row _ _).mono ?_
      rintro e w2 ⟨rfl, h2⟩
      have hg2 := (h2.block _ hsz).trans HR.out
      have HG2 := Lib.hid hg2
      clear hg2
      go_wp2_with (refine wpList_put_at rfl 142 (.tmp 21) (.tmp 20) rfl rfl (w.heap.size) (k * 2) rfl (.agg (vlL (vlAt l k)).toArray) rfl (vlL (vlAt l k)).toArray rfl 142 row _ HG2.out (by kernel_rfl) (Nat.ble_eq_true_of_le (by show k * 2 + 2 ≤ row.size; rw [HRs.out]; omega)) (by rfl) rfl ?_; intro w3 g3 o3; have HG3 := Lib.hid g3; have HO3 := Lib.hid o3; clear g3 o3)
      go_roundw
      case rel =>
        refine ⟨k + 1, _, by go_num, by omega, ?_, HG3.out, by rw [setAll_size, HRs.out], fun j hj c v hv => ?_⟩
        · exact HO3.out.below (hb.trans (h2.mono (Nat.le_of_lt hsz))) (Nat.le_refl _) (Nat.le_trans (Nat.le_of_lt hsz) h2.size)
        · have hc7 : c < 2 := by
            have := (List.getElem?_eq_some_iff.1 hv).1
            rwa [vlL_len] at this
          rcases Nat.lt_or_ge j k with h | h
          · rw [setAll_off _ _ _ _ (.inl (by omega))]
            exact HD.out j h c v hv
          · obtain rfl : j = k := by omega
            exact setAll_at _ _ _ _ _ (by show j * 2 + 2 ≤ row.size; rw [HRs.out]; omega) hv
      case measure => simp [intOf]; omega
    · have hge : N ≤ k := by omega
      go_wp2_with fail
      go_ret
      exact ⟨_, rfl, .inr ⟨w.heap.size, 0, row, rfl, Nat.le_refl _, hsz, HR.out, by rw [HRs.out, HN.out]; omega, fun i x hx c v hv => by
        have hi : i < l.length := (List.getElem?_eq_some_iff.1 hx).1
        rw [vlAt_some hi] at hx
        obtain rfl := Option.some.inj hx
        rw [Nat.zero_add]
        exact HD.out i (by have := HN.out; omega) c v hv⟩, hb⟩
set_option maxHeartbeats 1000000 in
theorem eqValue_row (x : Vl) (W : World) :
    Calls Try.prog 144 #[.agg (vlL x).toArray, .agg (vlL x).toArray] W fun e W' => e = .returned (.bool true) ∧ Below W.heap.size W W' := by
  obtain ⟨k, v⟩ := x
  unfold vlL
  go_enter Try.func144, Try.ntmps144
  go_wp2
  go_ret
  exact ⟨rfl, ((Below.refl _ _).alloc (Nat.le_refl _) _).alloc (by simp) _⟩
set_option maxRecDepth 100000 in
set_option maxHeartbeats 2000000 in
theorem eqValueS_same (a a' : Option Addr) (cap cap' : Nat) (l : List Vl) (w : World) (h : RsIn vlL 2 w a l) (h' : RsIn vlL 2 w a' l) (hlen : l.length ≤ 1048576) :
    Calls Try.prog 71 #[.slice a l.length cap, .slice a' l.length cap'] w fun e w' => e = .returned (.bool true) ∧ Below w.heap.size w w' := by
  obtain ⟨N, hN⟩ : ∃ N, l.length = N := ⟨_, rfl⟩
  have HN := Lib.hid hN
  have HI := Lib.hid h
  have HI' := Lib.hid h'
  rw [hN] at hlen ⊢
  clear hN h h'
  go_enter Try.func71, Try.ntmps71
  go_wp2_with fail
  go_loopw [5] (fun i wr => ∃ k : Nat, i = .int .i64 (k : Int) ∧ k ≤ N ∧ Below w.heap.size w wr) (fun i _ => N - (intOf i).toNat)
  case atStart => exact ⟨0, rfl, by omega, Below.refl _ _⟩
  case round =>
    obtain ⟨k, rfl, hk, hb⟩ := hrel
    by_cases hkn : k < N
    · have hkl : k < l.length := by have := HN.out; omega
      have hi1 : (0 : Int) ≤ (k : Int) := by omega
      have hi2 : (k : Int) < (N : Int) := by omega
      obtain ⟨b, o, rfl, hlt, hc⟩ := HI.out.at (by omega)
      obtain ⟨b', o', rfl, hlt', hc'⟩ := HI'.out.at (by omega)
      have lB : b < wr.heap.size := Nat.lt_of_lt_of_le hlt hb.size
      have lB' : b' < wr.heap.size := Nat.lt_of_lt_of_le hlt' hb.size
      have HC := Lib.hid (fun j v hv => (hb.cell (p := ⟨b, _, none⟩) hlt).trans (hc k _ (vlAt_some hkl) j v hv))
      have HC' := Lib.hid (fun j v hv => (hb.cell (p := ⟨b', _, none⟩) hlt').trans (hc' k _ (vlAt_some hkl) j v hv))
      clear hc hc'
      generalize vlAt l k = x at *
      go_wp2_with fail
      refine wp_region_quiet (C := fun W => Below wr.heap.size wr W) (by kernel_rfl) (by kernel_rfl) (Below.refl _ _).drew ?_
      dsimp only
      go_big_quiet_want; go_big_quiet_op; first | go_big_quiet_on | (refine ⟨_, fun _ _ => rfl, ?_⟩; go_big_quiet_on)
      go_big_quiet_want; go_big_quiet_op; first | go_big_quiet_on | (refine ⟨_, fun _ _ => rfl, ?_⟩; go_big_quiet_on)
      go_big_quiet_want; go_big_quiet_op; first | go_big_quiet_on | (refine ⟨_, fun _ _ => rfl, ?_⟩; go_big_quiet_on)
      go_big_quiet_want; refine ⟨.agg (vlL x).toArray, fun W hW => (quietLoadCells 142 (.tmp 19) rfl b (o + k * 2) rfl (vlL x) (grownCells lB HC.out hW) _ Try.underlying142 rfl (by kernel_rfl)), ?_⟩; simp only [Act.put, List.setIfInBounds_toArray, List.set_cons_zero, List.set_cons_succ]; go_big_quiet_on
      go_big_quiet_want; go_big_quiet_op; first | go_big_quiet_on | (refine ⟨_, fun _ _ => rfl, ?_⟩; go_big_quiet_on)
      go_big_quiet_want; go_big_quiet_op; first | go_big_quiet_on | (refine ⟨_, fun _ _ => rfl, ?_⟩; go_big_quiet_on)
      go_big_quiet_want; go_big_quiet_op; first | go_big_quiet_on | (refine ⟨_, fun _ _ => rfl, ?_⟩; go_big_quiet_on)
      go_big_quiet_want; refine ⟨.agg (vlL x).toArray, fun W hW => (quietLoadCells 142 (.tmp 23) rfl b' (o' + k * 2) rfl (vlL x) (grownCells lB' HC'.out hW) _ Try.underlying142 rfl (by kernel_rfl)), ?_⟩; simp only [Act.put, List.setIfInBounds_toArray, List.set_cons_zero, List.set_cons_succ]; go_big_quiet_on
      go_big_quiet_want; go_big_quiet_op; refine ⟨_, fun W hW => quietCall hW (eqValue_row x W), ?_⟩; go_big_quiet_on
      go_big_quiet_want; go_big_quiet_op; first | go_big_quiet_on | (refine ⟨_, fun _ _ => rfl, ?_⟩; go_big_quiet_on)
      refine wpQuiet_nil ?_
      intro X hX
      go_wp2_with fail
      go_roundw
      case rel => exact ⟨k + 1, by go_num, by omega, hb.trans (hX.mono hb.size)⟩
      case measure => simp [intOf]; omega
    · go_wp2_with fail
      go_ret
      exact ⟨rfl, hb⟩
/-- The marks from q on. -/
def markVl (q : Nat) : Vl := ⟨((q : Nat) : Int), ((q + 1 : Nat) : Int)⟩
/-- m of them from k on. -/
def marksVl (k m : Nat) : List Vl := (List.range m).map fun i => markVl (k + 2 * i)
theorem marksVl_length (k m : Nat) : (marksVl k m).length = m := by simp [marksVl]
theorem marksVl_at {k m i : Nat} {x : Vl} (h : (marksVl k m)[i]? = some x) : i < m ∧ x = markVl (k + 2 * i) := by
  unfold marksVl at h
  rw [List.getElem?_map] at h
  obtain ⟨j, hj, rfl⟩ := Option.map_eq_some_iff.1 h
  obtain ⟨hi, rfl⟩ := List.getElem?_eq_some_iff.1 hj
  have hi' : i < m := by simpa using hi
  simp [hi']
theorem marksVl_get {k m i : Nat} (h : i < m) : (marksVl k m)[i]? = some (markVl (k + 2 * i)) := by
  unfold marksVl
  rw [List.getElem?_map, List.getElem?_range h]
  rfl
set_option maxRecDepth 100000 in
set_option maxHeartbeats 8000000 in
theorem markValueS_any {lo hi : Nat} (a : Option Addr) (cap : Nat) (l : List Vl) (k : Nat) (w : World) (h : RsNew vlL 2 142 lo hi w a l) (hk0 : 0 < k) (hk : k + 2 * l.length ≤ 8000000) :
    Calls Try.prog 145 #[.slice a l.length cap, .int .i64 (k : Int)] w fun e w' => e = .returned (.int .i64 ((k + 2 * l.length : Nat) : Int)) ∧ RsNew vlL 2 142 lo hi w' a (marksVl k l.length) ∧ Out lo hi w w' := by
  obtain ⟨N, hN⟩ : ∃ N, l.length = N := ⟨_, rfl⟩
  have HN := Lib.hid hN
  rcases Nat.eq_zero_or_pos N with hN0 | hN0
  · rw [hN]
    subst hN0
    clear hN h
    go_enter Try.func145, Try.ntmps145
    go_wp2
    refine wp_loop_rounds 1 ?_
    rw [rounds_succ]; go_wp2
    go_ret
    exact ⟨rfl, .inl (by first | rfl | (simp [marksVl])), Out.refl _ _ _⟩
  obtain ⟨b, o, row0, rfl, hlo, hhi, hg0, hs0⟩ : ∃ b o row, a = some ⟨b, o, none⟩ ∧ lo ≤ b ∧ b < hi ∧ w.heap[b]? = some (.cells row 142 (0, 0)) ∧ o + N * 2 ≤ row.size := by
    rcases h with h | ⟨b, o, row, h1, h2, h3, h4, h5, h6⟩
    · rw [h] at hN
      simp at hN
      omega
    · rw [hN] at h5
      exact ⟨b, o, row, h1, h2, h3, h4, h5⟩
  have HG0 := Lib.hid hg0
  have hN8 : N ≤ 8000000 := by omega
  have HS0 := Lib.hid hs0
  rw [hN] at hk ⊢
  clear hN h hg0 hs0
  go_enter Try.func145, Try.ntmps145
  go_wp2_with fail
  go_loopw [1, 5] (fun u i wr => ∃ (m : Nat) (row : Array Value), i = .int .i64 (m : Int) ∧ u = .int .i64 ((k + 2 * m : Nat) : Int) ∧ m ≤ N ∧ Out lo hi w wr ∧ wr.heap[b]? = some (.cells row 142 (0, 0)) ∧ o + N * 2 ≤ row.size ∧
    (∀ j, j < m → ∀ c v, (vlL (markVl (k + 2 * j)))[c]? = some v → row[o + j * 2 + c]? = some v)) (fun _ i _ => N - (intOf i).toNat)
  case atStart => exact ⟨0, row0, rfl, rfl, by omega, Out.refl _ _ _, HG0.out, HS0.out, fun j hj => absurd hj (by omega)⟩
  case round =>
    obtain ⟨m, row, rfl, rfl, hm, hb, hgr, hrs, hdone⟩ := hrel
    have HD := Lib.hid hdone
    have HA := Lib.hid hgr
    have HB := Lib.hid hb
    have HRS := Lib.hid hrs
    clear hdone hgr hb HG0 HS0
    by_cases hmn : m < N
    · have hi1 : (0 : Int) ≤ (m : Int) := by omega
      have hi2 : (m : Int) < (N : Int) := by omega
      have hq : k + 2 * m + 2 ≤ 8000000 := by omega
      have hroom : o + m * 2 + 2 ≤ row.size := by omega
      have HK := Lib.hid (show k + 2 * (m + 1) = k + 2 * m + 2 by omega)
      obtain ⟨q, eq⟩ : ∃ q, k + 2 * m = q := ⟨_, rfl⟩
      have hq0 : 0 < q := by omega
      have HQ := Lib.hid eq
      rw [eq] at hq HK ⊢
      clear eq
      have w0_ : IntKind.i64.wrap (((q : Nat) : Int) + 1) = ((q + 1 : Nat) : Int) := by rw [IntWalk.i64_in _ (by omega)]; omega
      have w1_ : IntKind.i64.wrap (((q + 1 : Nat) : Int) + 1) = ((q + 2 : Nat) : Int) := by rw [IntWalk.i64_in _ (by omega)]; omega
      generalize e1_ : q + 1 = q1 at *
      generalize e2_ : q + 2 = q2 at *
      obtain ⟨p0, ep0⟩ : ∃ p, o + m * 2 = p := ⟨_, rfl⟩
      have HP := Lib.hid ep0
      obtain ⟨r1, er1⟩ : ∃ r, setAll row (p0) [.int .i64 (q : Int)] = r := ⟨_, rfl⟩
      have sr1 : r1.size = row.size := by rw [← er1, setAll_size]
      obtain ⟨r2, er2⟩ : ∃ r, setAll r1 (p0 + 1) [.int .i64 (q1 : Int)] = r := ⟨_, rfl⟩
      have sr2 : r2.size = row.size := by rw [← er2, setAll_size, sr1]
      have HER := Lib.hid (And.intro er1 er2)
      rw [ep0] at hroom
      have k0 : Nat.ble (p0 + 1) row.size = true := Nat.ble_eq_true_of_le (by omega)
      have k1 : Nat.ble (p0 + 1 + 1) r1.size = true := Nat.ble_eq_true_of_le (by omega)
      have HE := Lib.hid (And.intro e1_ e2_)
      clear er1 er2 e1_ e2_ hrs hk hroom hq sr1
      clear ep0
      go_wp2_with (first
        | (refine wpList_put_at rfl 2 (.tmp 16) (.tmp 14) rfl rfl b (o + m * 2) rfl (.int .i64 (q : Int)) rfl #[.int .i64 (q : Int)] rfl 142 row r1 HA.out (by kernel_rfl) (by rw [HP.out]; exact k0) rfl (by rw [HP.out]; exact HER.out.1) ?_; intro x1 g0 o0; have HA1 := Lib.hid g0; have HB1 := Lib.hid (HB.out.trans (o0.widen hlo hhi)); clear g0 o0)
        | (refine wpList_put_at rfl 2 (.tmp 23) (.tmp 21) rfl rfl b (o + m * 2 + 1) rfl (.int .i64 (q1 : Int)) rfl #[.int .i64 (q1 : Int)] rfl 142 r1 r2 HA1.out (by kernel_rfl) (by rw [HP.out]; exact k1) rfl (by rw [HP.out]; exact HER.out.2) ?_; intro x2 g1 o1; have HA2 := Lib.hid g1; have HB2 := Lib.hid (HB1.out.trans (o1.widen hlo hhi)); clear g1 o1))
      go_roundw
      case rel =>
        refine ⟨m + 1, r2, by go_num, by rw [HK.out], by omega, HB2.out, HA2.out, by rw [sr2]; exact HRS.out, fun j hj c v hv => ?_⟩
        obtain ⟨E1, E2⟩ := HER.out
        obtain ⟨F1, F2⟩ := HE.out
        have hp := HP.out
        have hrs2 := HRS.out
        have hc7 : c < 2 := by
          have := (List.getElem?_eq_some_iff.1 hv).1
          rwa [vlL_len] at this
        rcases Nat.lt_or_ge j m with h | h
        · have hlt : o + j * 2 + c < p0 := by omega
          rw [← E2, setAll_off _ _ _ _ (.inl (by omega)), ← E1, setAll_off _ _ _ _ (.inl (by omega))]
          exact HD.out j h c v hv
        · obtain rfl : j = m := by omega
          rw [HQ.out] at hv
          unfold markVl vlL at hv
          dsimp only at hv
          rw [F1] at hv
          rw [hp]
          have z : ∀ (rr : Array Value) (p : Nat) (u : Value), p < rr.size → (setAll rr p [u])[p]? = some u := fun rr p u hp => by
            have := setAll_at [u] rr p 0 u (by show p + 1 ≤ _; omega) rfl
            simpa using this
          have y : ∀ (rr : Array Value) (p p' : Nat) (u : Value), p' < p → (setAll rr p [u])[p']? = rr[p']? := fun rr p p' u hp => setAll_off _ _ _ _ (.inl hp)
          rcases c with _ | _ | c
          · simp at hv
            subst hv
            rw [← E2, y _ _ _ _ (by omega), ← E1]
            exact z _ _ _ (by have a0 := congrArg Array.size E1; have a1 := congrArg Array.size E2; rw [setAll_size] at a0 a1; omega)
          · simp at hv
            subst hv
            rw [← E2]
            exact z _ _ _ (by have a0 := congrArg Array.size E1; have a1 := congrArg Array.size E2; rw [setAll_size] at a0 a1; omega)
          · omega
      case measure => simp [intOf]; omega
    · have hge : N ≤ m := by omega
      go_wp2_with fail
      go_ret
      refine ⟨by rw [show N = m by omega]; rfl, .inr ⟨b, o, row, rfl, hlo, hhi, HA.out, by rw [marksVl_length]; exact HRS.out, fun i x hx c v hv => ?_⟩, HB.out⟩
      obtain ⟨hi', rfl⟩ := marksVl_at hx
      exact HD.out i (by omega) c v hv
set_option maxRecDepth 100000 in
set_option maxHeartbeats 8000000 in
theorem heldValueS_any {lo hi : Nat} (a : Option Addr) (cap : Nat) (N : Nat) (k : Nat) (w : World) (h : RsNew vlL 2 142 lo hi w a (marksVl k N)) (hk0 : 0 < k) (hk : k + 2 * N ≤ 8000000) :
    Calls Try.prog 146 #[.slice a N cap, .int .i64 (k : Int)] w fun e w' => e = .returned (.int .i64 ((k + 2 * N : Nat) : Int)) ∧ Below w.heap.size w w' := by
  have HI := Lib.hid h
  have hN8 : N ≤ 8000000 := by omega
  clear h
  go_enter Try.func146, Try.ntmps146
  go_wp2_with fail
  go_loopw [1, 5] (fun u i wr => ∃ m : Nat, i = .int .i64 (m : Int) ∧ u = .int .i64 ((k + 2 * m : Nat) : Int) ∧ m ≤ N ∧ Below w.heap.size w wr) (fun _ i _ => N - (intOf i).toNat)
  case atStart => exact ⟨0, rfl, rfl, by omega, Below.refl _ _⟩
  case round =>
    obtain ⟨m, rfl, rfl, hm, hb⟩ := hrel
    by_cases hmn : m < N
    · obtain ⟨b, o, row, rfl, _, _, hg, _, hc⟩ : ∃ b o row, a = some ⟨b, o, none⟩ ∧ lo ≤ b ∧ b < hi ∧ w.heap[b]? = some (.cells row 142 (0, 0)) ∧ o + (marksVl k N).length * 2 ≤ row.size ∧ ∀ (i : Nat) x, (marksVl k N)[i]? = some x → ∀ (j : Nat) v, (vlL x)[j]? = some v → row[o + i * 2 + j]? = some v := by
        rcases HI.out with h | h
        · have := marksVl_length k N
          rw [h] at this
          simp at this
          omega
        · exact h
      have hx := hc m _ (marksVl_get hmn)
      have hgw := (hb.block b (Array.getElem?_eq_some_iff.1 hg).1).trans hg
      have HG := Lib.hid hgw
      have hi1 : (0 : Int) ≤ (m : Int) := by omega
      have hi2 : (m : Int) < (N : Int) := by omega
      have HK := Lib.hid (show k + 2 * (m + 1) = k + 2 * m + 2 by omega)
      have hq : k + 2 * m + 2 ≤ 8000000 := by omega
      obtain ⟨q, eq⟩ : ∃ q, k + 2 * m = q := ⟨_, rfl⟩
      have hq0 : 0 < q := by omega
      rw [eq] at hq HK hx ⊢
      unfold markVl vlL at hx
      dsimp only at hx
      have c0 := hx 0 _ rfl
      have c1 := hx 1 _ rfl
      have w0_ : IntKind.i64.wrap (((q : Nat) : Int) + 1) = ((q + 1 : Nat) : Int) := by rw [IntWalk.i64_in _ (by omega)]; omega
      have w1_ : IntKind.i64.wrap (((q + 1 : Nat) : Int) + 1) = ((q + 2 : Nat) : Int) := by rw [IntWalk.i64_in _ (by omega)]; omega
      clear hx hc hg hgw hk hq hq0 eq
      rw [Nat.add_zero] at c0
      generalize q + 1 = q1 at *
      generalize q + 2 = q2 at *
      have n0 : ((q : Int) != (q : Int)) = false := by simp
      have n1 : ((q1 : Int) != (q1 : Int)) = false := by simp
      go_wp2_with (first
        | (refine wpList_load_one rfl 2 (.tmp 15) rfl b (o + m * 2) rfl 142 row (0, 0) HG.out _ c0 _ Try.underlying2 rfl (by kernel_rfl) ?_)
        | (refine wpList_load_one rfl 2 (.tmp 24) rfl b (o + m * 2 + 1) rfl 142 row (0, 0) HG.out _ c1 _ Try.underlying2 rfl (by kernel_rfl) ?_))
      go_roundw
      case rel => exact ⟨m + 1, by go_num, by rw [HK.out], by omega, hb⟩
      case measure => simp [intOf]; omega
    · have hge : N ≤ m := by omega
      go_wp2_with fail
      go_ret
      exact ⟨by rw [show N = m by omega]; rfl, hb⟩
end Go.Proofs.Ytanijfmfjabmfaa
/- The table of groups: its rows, as the program lays them down, and the row of one group. Nothing that was there is written. -/
namespace Go.Proofs.Ytanijfmfjabmfaa
open Go.RowKit
set_option linter.unusedVariables false

/-- A row of the table. -/
structure Df where
  p : Int
  s : Int
  r : Int
  fs : List Fd
/-- The table. -/
def dfs : List Df := [⟨127250, 8, 2, [⟨0, 8, false⟩, ⟨8, 16, false⟩, ⟨24, 16, true⟩, ⟨40, 16, true⟩, ⟨56, 2, false⟩]⟩, ⟨127488, 8, 2, [⟨0, 8, false⟩, ⟨8, 16, false⟩, ⟨24, 16, false⟩, ⟨40, 8, true⟩]⟩, ⟨128267, 8, 3, [⟨0, 8, false⟩, ⟨8, 32, false⟩, ⟨40, 16, true⟩, ⟨56, 8, false⟩]⟩, ⟨128275, 14, 6, [⟨0, 16, false⟩, ⟨16, 32, false⟩, ⟨48, 32, false⟩, ⟨80, 32, false⟩]⟩, ⟨129025, 8, 2, [⟨0, 32, true⟩, ⟨32, 32, true⟩]⟩, ⟨130306, 8, 2, [⟨0, 8, false⟩, ⟨8, 16, false⟩, ⟨24, 16, false⟩, ⟨40, 3, false⟩]⟩]
/-- The place of a group in it. -/
def ixD (p : Int) : Nat := if p = 127250 then 0 else if p = 127488 then 1 else if p = 128267 then 2 else if p = 128275 then 3 else if p = 129025 then 4 else if p = 130306 then 5 else 6
/-- The row of a group. -/
def defD (p : Int) : Df := dfs[ixD p]?.getD ⟨0, 0, 0, []⟩
/-- A row as it stands in memory. -/
structure Dx where
  p : Int
  s : Int
  r : Int
  a : Option Addr
  n : Nat
def dxL (x : Dx) : List Value := [.int .i64 x.p, .int .i64 x.s, .int .i64 x.r, .slice x.a x.n x.n]
theorem dxL_len (x : Dx) : (dxL x).length = 4 := rfl
/-- The rows, their Fields in the blocks from B on. -/
def dxs (B : Nat) : List Dx := [⟨127250, 8, 2, some ⟨B, 0, none⟩, 5⟩, ⟨127488, 8, 2, some ⟨B + 1, 0, none⟩, 4⟩, ⟨128267, 8, 3, some ⟨B + 1 + 1, 0, none⟩, 4⟩, ⟨128275, 14, 6, some ⟨B + 1 + 1 + 1, 0, none⟩, 4⟩, ⟨129025, 8, 2, some ⟨B + 1 + 1 + 1 + 1, 0, none⟩, 2⟩, ⟨130306, 8, 2, some ⟨B + 1 + 1 + 1 + 1 + 1, 0, none⟩, 4⟩]
def dxAt (B : Nat) (i : Nat) : Dx := (dxs B)[i]?.getD ⟨0, 0, 0, none, 0⟩
/-- What is found. -/
def dxD (B : Nat) (p : Int) : Dx := dxAt B (ixD p)
theorem dxAt_some {B i : Nat} (h : i < 6) : (dxs B)[i]? = some (dxAt B i) := by
  unfold dxAt
  rw [List.getElem?_eq_getElem (show i < (dxs B).length from h)]
  rfl
def pAt (i : Nat) : Int := (dxAt 0 i).p
theorem dxAt_p (B i : Nat) : (dxAt B i).p = pAt i := by
  rcases i with _ | _ | _ | _ | _ | _ | i <;> rfl
theorem ixD_le (p : Int) : ixD p ≤ 6 := by
  unfold ixD
  repeat' split
  all_goals omega
theorem ixD_at (i : Nat) (h : i < 6) : ixD (pAt i) = i := by
  rcases i with _ | _ | _ | _ | _ | _ | i
  all_goals first | rfl | omega
theorem ixD_of {p : Int} {i : Nat} (h : i < 6) (hp : pAt i = p) : ixD p = i := by rw [← hp]; exact ixD_at i h
theorem pAt_0 : pAt 0 = 127250 := rfl
theorem pAt_1 : pAt 1 = 127488 := rfl
theorem pAt_2 : pAt 2 = 128267 := rfl
theorem pAt_3 : pAt 3 = 128275 := rfl
theorem pAt_4 : pAt 4 = 129025 := rfl
theorem pAt_5 : pAt 5 = 130306 := rfl
theorem pAt_in {i : Nat} (h : i < 6) : 127250 ≤ pAt i ∧ pAt i ≤ 130306 := by
  rcases i with _ | _ | _ | _ | _ | _ | i
  · rw [pAt_0]; omega
  · rw [pAt_1]; omega
  · rw [pAt_2]; omega
  · rw [pAt_3]; omega
  · rw [pAt_4]; omega
  · rw [pAt_5]; omega
  · omega
theorem pAt_mono {i j : Nat} (hij : i < j) (hj : j < 6) : pAt i < pAt j := by
  rcases j with _ | _ | _ | _ | _ | _ | j
  all_goals first | omega | skip
  all_goals rcases i with _ | _ | _ | _ | _ | i
  all_goals first | omega | decide
/-- Ahead of a greater one there is none. -/
theorem ixD_no {p : Int} {i : Nat} (hi : i ≤ 6) (h1 : ∀ j, j < i → pAt j < p) (h2 : i < 6 → p < pAt i) : ixD p = 6 := by
  have hne : ∀ j, j < 6 → p ≠ pAt j := by
    intro j hj e
    rcases Nat.lt_or_ge j i with h | h
    · have := h1 j h
      omega
    · have h3 := h2 (by omega)
      rcases Nat.lt_or_ge i j with h4 | h4
      · have := pAt_mono h4 hj
        omega
      · obtain rfl : i = j := by omega
        omega
  have n0 := hne 0 (by omega)
  have n1 := hne 1 (by omega)
  have n2 := hne 2 (by omega)
  have n3 := hne 3 (by omega)
  have n4 := hne 4 (by omega)
  have n5 := hne 5 (by omega)
  rw [pAt_0] at n0
  rw [pAt_1] at n1
  rw [pAt_2] at n2
  rw [pAt_3] at n3
  rw [pAt_4] at n4
  rw [pAt_5] at n5
  unfold ixD
  rw [if_neg n0, if_neg n1, if_neg n2, if_neg n3, if_neg n4, if_neg n5]

/-- Objects laid down one behind the other. -/
def allocL : World → List Obj → World
  | w, [] => w
  | w, o :: r => allocL (w.alloc o) r
theorem allocL_below : ∀ (l : List Obj) (w : World), Below w.heap.size w (allocL w l)
  | [], w => Below.refl _ _
  | o :: r, w => ((Below.refl w.heap.size w).alloc (Nat.le_refl _) o).trans ((allocL_below r (w.alloc o)).mono (by simp))
theorem allocL_at : ∀ (l : List Obj) (w : World) (i : Nat) (o : Obj), l[i]? = some o → (allocL w l).heap[w.heap.size + i]? = some o
  | [], w, i, o, h => by simp at h
  | o' :: r, w, i, o, h => by
    rcases i with _ | i
    · simp at h
      subst h
      exact ((allocL_below r (w.alloc o')).block _ (by simp)).trans (heap_alloc_new w o')
    · simp at h
      have := allocL_at r (w.alloc o') i o h
      rw [show w.heap.size + (i + 1) = (w.alloc o').heap.size + i by simp; omega]
      exact this
theorem allocL_size : ∀ (l : List Obj) (w : World), (allocL w l).heap.size = w.heap.size + l.length
  | [], w => rfl
  | o :: r, w => by
    have := allocL_size r (w.alloc o)
    simp at this
    simp only [allocL, List.length_cons]
    omega

/-- The table stands in block G, the Fields of its rows in the blocks from B on. -/
structure TabAt (B G : Nat) (w : World) : Prop where
  rows : w.heap[G]? = some (.cells ((dxs B).flatMap dxL).toArray 70 (0, 0))
  flds : ∀ (i : Nat) (x : Df), dfs[i]? = some x → w.heap[B + i]? = some (.cells (x.fs.flatMap fdL).toArray 77 (0, 0))
theorem TabAt.kept {B G : Nat} {w w' : World} (h : TabAt B G w) (hb : Below w.heap.size w w') : TabAt B G w' :=
  ⟨(hb.block G (Array.getElem?_eq_some_iff.1 h.rows).1).trans h.rows, fun i x hx => (hb.block _ (Array.getElem?_eq_some_iff.1 (h.flds i x hx)).1).trans (h.flds i x hx)⟩
theorem TabAt.cells {B G : Nat} {w : World} (h : TabAt B G w) {i : Nat} (hi : i < 6) (j : Nat) (v : Value) (hv : (dxL (dxAt B i))[j]? = some v) : w.cell? ⟨G, i * 4 + j, none⟩ = some v := by
  rw [cell_of_row w G _ _ _ (0, 0) h.rows]
  have := flat_at dxL 4 dxL_len (dxs B) i _ (dxAt_some hi) j v hv
  simpa using this
theorem TabAt.lt {B G : Nat} {w : World} (h : TabAt B G w) : G < w.heap.size := (Array.getElem?_eq_some_iff.1 h.rows).1

set_option maxRecDepth 100000 in
set_option maxHeartbeats 4000000 in
theorem defs_any (w : World) :
    Calls Try.prog 125 #[] w fun e w' => ∃ G, e = .returned (.slice (some ⟨G, 0, none⟩) 6 6) ∧ TabAt w.heap.size G w' ∧ Below w.heap.size w w' := by
  have HA := Lib.hid (allocL_at [.cells (List.flatMap fdL [⟨0, 8, false⟩, ⟨8, 16, false⟩, ⟨24, 16, true⟩, ⟨40, 16, true⟩, ⟨56, 2, false⟩]).toArray 77, .cells (List.flatMap fdL [⟨0, 8, false⟩, ⟨8, 16, false⟩, ⟨24, 16, false⟩, ⟨40, 8, true⟩]).toArray 77, .cells (List.flatMap fdL [⟨0, 8, false⟩, ⟨8, 32, false⟩, ⟨40, 16, true⟩, ⟨56, 8, false⟩]).toArray 77, .cells (List.flatMap fdL [⟨0, 16, false⟩, ⟨16, 32, false⟩, ⟨48, 32, false⟩, ⟨80, 32, false⟩]).toArray 77, .cells (List.flatMap fdL [⟨0, 32, true⟩, ⟨32, 32, true⟩]).toArray 77, .cells (List.flatMap fdL [⟨0, 8, false⟩, ⟨8, 16, false⟩, ⟨24, 16, false⟩, ⟨40, 3, false⟩]).toArray 77, .cells ((dxs w.heap.size).flatMap dxL).toArray 70] w)
  have HB := Lib.hid (allocL_below [.cells (List.flatMap fdL [⟨0, 8, false⟩, ⟨8, 16, false⟩, ⟨24, 16, true⟩, ⟨40, 16, true⟩, ⟨56, 2, false⟩]).toArray 77, .cells (List.flatMap fdL [⟨0, 8, false⟩, ⟨8, 16, false⟩, ⟨24, 16, false⟩, ⟨40, 8, true⟩]).toArray 77, .cells (List.flatMap fdL [⟨0, 8, false⟩, ⟨8, 32, false⟩, ⟨40, 16, true⟩, ⟨56, 8, false⟩]).toArray 77, .cells (List.flatMap fdL [⟨0, 16, false⟩, ⟨16, 32, false⟩, ⟨48, 32, false⟩, ⟨80, 32, false⟩]).toArray 77, .cells (List.flatMap fdL [⟨0, 32, true⟩, ⟨32, 32, true⟩]).toArray 77, .cells (List.flatMap fdL [⟨0, 8, false⟩, ⟨8, 16, false⟩, ⟨24, 16, false⟩, ⟨40, 3, false⟩]).toArray 77, .cells ((dxs w.heap.size).flatMap dxL).toArray 70] w)
  go_enter Try.func125, Try.ntmps125
  go_wp2
  go_ret
  refine ⟨_, rfl, ⟨?_, ?_⟩, HB.out⟩
  · exact HA.out 6 _ rfl
  · intro i x hx
    rcases i with _ | _ | _ | _ | _ | _ | i
    · cases hx; exact HA.out 0 _ rfl
    · cases hx; exact HA.out 1 _ rfl
    · cases hx; exact HA.out 2 _ rfl
    · cases hx; exact HA.out 3 _ rfl
    · cases hx; exact HA.out 4 _ rfl
    · cases hx; exact HA.out 5 _ rfl
    · simp [dfs] at hx
set_option maxRecDepth 100000 in
theorem pgnOf_any (x : Dx) (w : World) :
    Calls Try.prog 126 #[.agg (dxL x).toArray] w fun e w' => e = .returned (.int .i64 x.p) ∧ Below w.heap.size w w' := by
  obtain ⟨p, s, r, a, n⟩ := x
  unfold dxL
  go_enter Try.func126, Try.ntmps126
  go_wp2
  go_ret
  exact ⟨rfl, (Below.refl _ _).alloc (Nat.le_refl _) _⟩
set_option maxRecDepth 100000 in
set_option maxHeartbeats 8000000 in
theorem rowOf_any (B G : Nat) (key : Int) (w : World) (h : TabAt B G w) :
    Calls Try.prog 124 #[.slice (some ⟨G, 0, none⟩) 6 6, .int .i64 key, .func (.func 126) #[] #[]] w fun e w' => e = .returned (.tuple #[.agg (dxL (dxD B key)).toArray, .bool (decide (ixD key < 6))]) ∧ Below w.heap.size w w' := by
  have HT := Lib.hid h
  have lG := h.lt
  clear h
  have H60 := Lib.hid (heap_alloc_new w (.cells #[.int .i64 0, .int .i64 0, .int .i64 0, .slice none 0 0] 70))
  have H80 := Lib.hid (heap_alloc_new (w.alloc (.cells #[.int .i64 0, .int .i64 0, .int .i64 0, .slice none 0 0] 70)) (.cells #[.int .i64 0, .int .i64 0, .int .i64 0, .slice none 0 0] 70))
  go_enter Try.func124, Try.ntmps124
  go_wp2_with fail
  go_step3
  go_wp2_with fail
  go_step3
  go_wp2_with fail
  go_loopw [9, 15] (fun v i wr => ∃ k : Nat, i = .int .i64 (k : Int) ∧ v = .bool false ∧ k ≤ 6 ∧ (∀ j, j < k → pAt j < key) ∧ Below w.heap.size w wr ∧ w.heap.size + 2 ≤ wr.heap.size ∧ wr.heap[w.heap.size]? = some (.cells #[.int .i64 0, .int .i64 0, .int .i64 0, .slice none 0 0] 70 (0, 0)) ∧ wr.heap[w.heap.size + 1]? = some (.cells #[.int .i64 0, .int .i64 0, .int .i64 0, .slice none 0 0] 70 (0, 0))) (fun _ i _ => 6 - (intOf i).toNat)
  case atStart =>
    refine ⟨0, rfl, rfl, by omega, fun j hj => absurd hj (by omega), ((Below.refl _ _).alloc (Nat.le_refl _) _).alloc (by simp) _, by simp, ?_, ?_⟩
    · rw [Below.heap_alloc _ _ _ (by simp)]
      exact H60.out
    · have := H80.out
      simpa using this
  case round =>
    obtain ⟨k, rfl, rfl, hk, hall, hb, hs2, h6, h8⟩ := hrel
    have HA := Lib.hid hall
    have H6 := Lib.hid h6
    have H8 := Lib.hid h8
    have l6 : w.heap.size < wr.heap.size := by omega
    have l8 : w.heap.size + 1 < wr.heap.size := by omega
    clear hall h6 h8 H60 H80
    by_cases hkn : k < 6
    · have hi1 : (0 : Int) ≤ (k : Int) := by omega
      have hi2 : (k : Int) < 6 := by omega
      have HCs := Lib.hid (fun j v hv => (HT.out.kept hb).cells hkn (B := B) j v hv)
      have HP := Lib.hid (dxAt_p B k)
      have HX := Lib.hid (show ∀ q, pAt k = q → q = key → dxD B key = dxAt B k from fun q h1 h2 => by unfold dxD; rw [ixD_of hkn (h1.trans h2)])
      generalize hx : dxAt B k = x at *
      obtain ⟨p, s, r, a, n⟩ := x
      unfold dxL at HCs
      dsimp only at *
      go_wp2_with (first
        | (refine wpList_load_cells rfl 70 (.tmp 17) rfl G (k * 4) rfl [.int .i64 p, .int .i64 s, .int .i64 r, .slice a n n] HCs.out _ Try.underlying70 rfl (by kernel_rfl) ?_)
        | (refine wpList_alloc_h rfl 70 rfl (.agg #[.int .i64 0, .int .i64 0, .int .i64 0, .slice none 0 0]) (by kernel_rfl) #[.int .i64 0, .int .i64 0, .int .i64 0, .slice none 0 0] rfl ?_; intro w1 R1 e1 g1 b1; have HL1 := Lib.hid (show Lg wr w1 [(R1, #[.int .i64 0, .int .i64 0, .int .i64 0, .slice none 0 0], 70)] [] from (Lg.first wr).box e1 g1 b1); clear g1 b1 e1)
        | (refine wpList_put_at rfl 70 (.tmp 11) (.tmp 18) rfl rfl (R1) 0 rfl (.agg #[.int .i64 p, .int .i64 s, .int .i64 r, .slice a n n]) rfl #[.int .i64 p, .int .i64 s, .int .i64 r, .slice a n n] rfl 70 #[.int .i64 0, .int .i64 0, .int .i64 0, .slice none 0 0] #[.int .i64 p, .int .i64 s, .int .i64 r, .slice a n n] (HL1.out.get (.head _)) (by kernel_rfl) (by kernel_rfl) (by kernel_rfl) (by kernel_rfl) ?_; intro w2 g2 o2; have HL2 := Lib.hid (show Lg wr w2 [(R1, #[.int .i64 p, .int .i64 s, .int .i64 r, .slice a n n], 70)] [] from HL1.out.put 0 rfl g2 o2 (fun _ h => nomatch h) (fun _ h => nomatch h) rfl); clear g2 o2)
        | (refine wpList_load_at rfl 70 (.tmp 11) rfl (R1) 0 rfl 70 #[.int .i64 p, .int .i64 s, .int .i64 r, .slice a n n] (0, 0) (HL2.out.get (.head _)) [.int .i64 p, .int .i64 s, .int .i64 r, .slice a n n] rfl _ Try.underlying70 rfl (by kernel_rfl) ?_))
      refine (pgnOf_any ⟨p, s, r, a, n⟩ _).mono ?_
      rintro e w3 ⟨rfl, h⟩
      have HL3 := Lib.hid (show Lg wr w3 [(R1, #[.int .i64 p, .int .i64 s, .int .i64 r, .slice a n n], 70)] [] from HL2.out.kept h)
      clear h
      have HZ6 := Lib.hid ((HL3.out.below.block w.heap.size l6).trans H6.out)
      have HZ8 := Lib.hid ((HL3.out.below.block (w.heap.size + 1) l8).trans H8.out)
      rcases Int.lt_trichotomy p key with hlt | heq | hgt
      · have e1 : (p == key) = false := by simp; omega
        have e2 : decide (key < p) = false := decide_eq_false (by omega)
        go_wp2_with fail
        go_roundw
        case rel =>
          refine ⟨k + 1, by go_num, rfl, by omega, fun j hj => ?_, hb.trans (HL3.out.below.mono hb.size), Nat.le_trans hs2 HL3.out.below.size, HZ6.out, HZ8.out⟩
          rcases Nat.lt_or_ge j k with h | h
          · exact HA.out j h
          · obtain rfl : j = k := by omega
            rw [← HP.out]
            exact hlt
        case measure => simp [intOf]; omega
      · subst heq
        have e1 : (p == p) = true := by simp
        have HV := Lib.hid (HX.out p HP.out.symm rfl)
        have HI := Lib.hid (show decide (ixD p < 6) = true from decide_eq_true (by rw [ixD_of hkn HP.out.symm]; exact hkn))
        clear HX
        have l63 := Nat.lt_of_lt_of_le l6 HL3.out.below.size
        go_wp2_with (first
          | (refine wpList_load_at rfl 70 (.tmp 11) rfl (R1) 0 rfl 70 #[.int .i64 p, .int .i64 s, .int .i64 r, .slice a n n] (0, 0) (HL3.out.get (.head _)) [.int .i64 p, .int .i64 s, .int .i64 r, .slice a n n] rfl _ Try.underlying70 rfl (by kernel_rfl) ?_)
          | (refine wpList_put_at rfl 70 (.tmp 8) (.tmp 26) rfl rfl (w.heap.size + 1) 0 rfl (.agg #[.int .i64 p, .int .i64 s, .int .i64 r, .slice a n n]) rfl #[.int .i64 p, .int .i64 s, .int .i64 r, .slice a n n] rfl 70 #[.int .i64 0, .int .i64 0, .int .i64 0, .slice none 0 0] #[.int .i64 p, .int .i64 s, .int .i64 r, .slice a n n] HZ8.out (by kernel_rfl) (by kernel_rfl) (by kernel_rfl) (by kernel_rfl) ?_; intro w4 g4 o4; have HG4 := Lib.hid g4; have HO4 := Lib.hid o4; have HZ64 := Lib.hid ((o4.block w.heap.size l63 (.inl (Nat.lt_succ_self _))).trans HZ6.out); clear g4 o4)
          | (refine wpList_load_at rfl 70 (.tmp 8) rfl (w.heap.size + 1) 0 rfl 70 #[.int .i64 p, .int .i64 s, .int .i64 r, .slice a n n] (0, 0) HG4.out [.int .i64 p, .int .i64 s, .int .i64 r, .slice a n n] rfl _ Try.underlying70 rfl (by kernel_rfl) ?_)
          | (refine wpList_put_at rfl 70 (.tmp 6) (.tmp 32) rfl rfl (w.heap.size) 0 rfl (.agg #[.int .i64 p, .int .i64 s, .int .i64 r, .slice a n n]) rfl #[.int .i64 p, .int .i64 s, .int .i64 r, .slice a n n] rfl 70 #[.int .i64 0, .int .i64 0, .int .i64 0, .slice none 0 0] #[.int .i64 p, .int .i64 s, .int .i64 r, .slice a n n] HZ64.out (by kernel_rfl) (by kernel_rfl) (by kernel_rfl) (by kernel_rfl) ?_; intro w5 g5 o5; have HG5 := Lib.hid g5; have HO5 := Lib.hid o5; clear g5 o5))
        have c0 := cell_of_row w5 w.heap.size 0 _ _ (0, 0) HG5.out
        have c1 := cell_of_row w5 w.heap.size 1 _ _ (0, 0) HG5.out
        have c2 := cell_of_row w5 w.heap.size 2 _ _ (0, 0) HG5.out
        have c3 := cell_of_row w5 w.heap.size 3 _ _ (0, 0) HG5.out
        simp only [List.getElem?_toArray, List.getElem?_cons_zero, List.getElem?_cons_succ] at c0 c1 c2 c3
        rw [Exit.noGoto_ret]
        exact bodyPost_ret (v := .tuple #[.agg #[.int .i64 p, .int .i64 s, .int .i64 r, .slice a n n], .bool true]) (by simp [results, Try.results124, go_sem, c0, c1, c2, c3]) rfl ⟨by rw [HV.out, HI.out]; rfl, HO5.out.below (HO4.out.below (hb.trans (HL3.out.below.mono hb.size)) (Nat.le_succ _) (Nat.le_trans hb.size HL3.out.below.size)) (Nat.le_refl _) (Nat.le_trans (Nat.le_trans hb.size HL3.out.below.size) HO4.out.size)⟩
      · have e1 : (p == key) = false := by simp; omega
        have e2 : decide (key < p) = true := decide_eq_true (by omega)
        have HI := Lib.hid (show ixD key = 6 from ixD_no (Nat.le_of_lt hkn) HA.out (fun _ => by rw [← HP.out]; exact hgt))
        go_wp2_with (first
          | (refine wpList_load_at rfl 70 (.tmp 8) rfl (w.heap.size + 1) 0 rfl 70 #[.int .i64 0, .int .i64 0, .int .i64 0, .slice none 0 0] (0, 0) HZ8.out [.int .i64 0, .int .i64 0, .int .i64 0, .slice none 0 0] rfl _ Try.underlying70 rfl (by kernel_rfl) ?_)
          | (refine wpList_put_at rfl 70 (.tmp 6) (.tmp 32) rfl rfl (w.heap.size) 0 rfl (.agg #[.int .i64 0, .int .i64 0, .int .i64 0, .slice none 0 0]) rfl #[.int .i64 0, .int .i64 0, .int .i64 0, .slice none 0 0] rfl 70 #[.int .i64 0, .int .i64 0, .int .i64 0, .slice none 0 0] #[.int .i64 0, .int .i64 0, .int .i64 0, .slice none 0 0] HZ6.out (by kernel_rfl) (by kernel_rfl) (by kernel_rfl) (by kernel_rfl) ?_; intro w5 g5 o5; have HG5 := Lib.hid g5; have HO5 := Lib.hid o5; clear g5 o5))
        have c0 := cell_of_row w5 w.heap.size 0 _ _ (0, 0) HG5.out
        have c1 := cell_of_row w5 w.heap.size 1 _ _ (0, 0) HG5.out
        have c2 := cell_of_row w5 w.heap.size 2 _ _ (0, 0) HG5.out
        have c3 := cell_of_row w5 w.heap.size 3 _ _ (0, 0) HG5.out
        simp only [List.getElem?_toArray, List.getElem?_cons_zero, List.getElem?_cons_succ] at c0 c1 c2 c3
        rw [Exit.noGoto_ret]
        exact bodyPost_ret (v := .tuple #[.agg #[.int .i64 0, .int .i64 0, .int .i64 0, .slice none 0 0], .bool false]) (by simp [results, Try.results124, go_sem, c0, c1, c2, c3]) rfl ⟨by unfold dxD; rw [HI.out]; rfl, HO5.out.below (hb.trans (HL3.out.below.mono hb.size)) (Nat.le_refl _) (Nat.le_trans hb.size HL3.out.below.size)⟩
    · have HI := Lib.hid (show ixD key = 6 from ixD_no (i := 6) (Nat.le_refl _) (fun j hj => HA.out j (by omega)) (fun h => absurd h (by omega)))
      go_wp2_with (first
        | (refine wpList_load_at rfl 70 (.tmp 8) rfl (w.heap.size + 1) 0 rfl 70 #[.int .i64 0, .int .i64 0, .int .i64 0, .slice none 0 0] (0, 0) H8.out [.int .i64 0, .int .i64 0, .int .i64 0, .slice none 0 0] rfl _ Try.underlying70 rfl (by kernel_rfl) ?_)
        | (refine wpList_put_at rfl 70 (.tmp 6) (.tmp 32) rfl rfl (w.heap.size) 0 rfl (.agg #[.int .i64 0, .int .i64 0, .int .i64 0, .slice none 0 0]) rfl #[.int .i64 0, .int .i64 0, .int .i64 0, .slice none 0 0] rfl 70 #[.int .i64 0, .int .i64 0, .int .i64 0, .slice none 0 0] #[.int .i64 0, .int .i64 0, .int .i64 0, .slice none 0 0] H6.out (by kernel_rfl) (by kernel_rfl) (by kernel_rfl) (by kernel_rfl) ?_; intro w5 g5 o5; have HG5 := Lib.hid g5; have HO5 := Lib.hid o5; clear g5 o5))
      have c0 := cell_of_row w5 w.heap.size 0 _ _ (0, 0) HG5.out
      have c1 := cell_of_row w5 w.heap.size 1 _ _ (0, 0) HG5.out
      have c2 := cell_of_row w5 w.heap.size 2 _ _ (0, 0) HG5.out
      have c3 := cell_of_row w5 w.heap.size 3 _ _ (0, 0) HG5.out
      simp only [List.getElem?_toArray, List.getElem?_cons_zero, List.getElem?_cons_succ] at c0 c1 c2 c3
      rw [Exit.noGoto_ret]
      exact bodyPost_ret (v := .tuple #[.agg #[.int .i64 0, .int .i64 0, .int .i64 0, .slice none 0 0], .bool false]) (by simp [results, Try.results124, go_sem, c0, c1, c2, c3]) rfl ⟨by unfold dxD; rw [HI.out]; rfl, HO5.out.below hb (Nat.le_refl _) hb.size⟩
end Go.Proofs.Ytanijfmfjabmfaa
/- The row of one group: the program's and the model's. Its Fields stand in memory of the call's own. -/
namespace Go.Proofs.Ytanijfmfjabmfaa
open Go.RowKit
set_option linter.unusedVariables false

/-- Where its Fields stand. -/
def aD (B : Nat) (p : Int) : Option Addr := if ixD p < 6 then some ⟨B + ixD p, 0, none⟩ else none
theorem dxD_eq (B : Nat) (p : Int) : dxD B p = ⟨(defD p).p, (defD p).s, (defD p).r, aD B p, (defD p).fs.length⟩ := by
  have h := ixD_le p
  unfold dxD defD aD
  generalize ixD p = i at *
  rcases i with _ | _ | _ | _ | _ | _ | _ | i
  all_goals first | rfl | omega
theorem TabAt.hi {B G : Nat} {w : World} (h : TabAt B G w) : B + 6 ≤ w.heap.size := (Array.getElem?_eq_some_iff.1 (h.flds 5 _ rfl)).1
theorem flds_new {B G : Nat} {w : World} {lo hi : Nat} (h : TabAt B G w) (hlo : lo ≤ B) (hhi : B + 6 ≤ hi) (p : Int) : RsNew fdL 3 77 lo hi w (aD B p) (defD p).fs := by
  unfold aD
  by_cases hp : ixD p < 6
  · rw [if_pos hp]
    obtain ⟨x, hx⟩ : ∃ x, dfs[ixD p]? = some x := ⟨_, List.getElem?_eq_getElem (show ixD p < dfs.length from hp)⟩
    have hd : defD p = x := by unfold defD; rw [hx]; rfl
    rw [hd]
    refine .inr ⟨B + ixD p, 0, _, rfl, by omega, by omega, h.flds _ x hx, by simp [flat_len fdL 3 fdL_len], fun i y hy j v hv => ?_⟩
    have := flat_at fdL 3 fdL_len x.fs i y hy j v hv
    simpa using this
  · have hd : defD p = ⟨0, 0, 0, []⟩ := by
      unfold defD
      rw [List.getElem?_eq_none (show dfs.length ≤ ixD p from by show 6 ≤ _; omega)]
      rfl
    rw [hd]
    exact .inl rfl
theorem rowOf_d (B G : Nat) (p : Int) (w : World) (h : TabAt B G w) :
    Calls Try.prog 124 #[.slice (some ⟨G, 0, none⟩) 6 6, .int .i64 p, .func (.func 126) #[] #[]] w fun e w' => e = .returned (.tuple #[.agg #[.int .i64 (defD p).p, .int .i64 (defD p).s, .int .i64 (defD p).r, .slice (aD B p) (defD p).fs.length (defD p).fs.length], .bool (decide (ixD p < 6))]) ∧ Below w.heap.size w w' := by
  have := rowOf_any B G p w h
  rw [dxD_eq] at this
  exact this
theorem defD_len (p : Int) : (defD p).fs.length ≤ 5 := by
  have h := ixD_le p
  unfold defD
  generalize ixD p = i at *
  rcases i with _ | _ | _ | _ | _ | _ | _ | i
  all_goals first | decide | omega
/-- What DefOf answers. -/
def DefOut (p : Int) (w : World) (e : Ending) (w' : World) : Prop :=
  ∃ a, e = .returned (.agg #[.int .i64 (defD p).p, .int .i64 (defD p).s, .int .i64 (defD p).r, .slice a (defD p).fs.length (defD p).fs.length]) ∧ RsNew fdL 3 77 w.heap.size w'.heap.size w' a (defD p).fs ∧ Below w.heap.size w w'

set_option maxRecDepth 100000 in
set_option maxHeartbeats 4000000 in
theorem implDefOf_any (p : Int) (w : World) : Calls Try.prog 47 #[.int .i64 p] w (DefOut p w) := by
  unfold DefOut
  have HRow := fun B G W h => Lib.hid (rowOf_d B G p W h)
  have HN := Lib.hid (fun B G W lo hi h1 h2 h3 => @flds_new B G W lo hi h1 h2 h3 p)
  generalize defD p = d at *
  obtain ⟨P, S, R, F⟩ := d
  dsimp only at *
  obtain ⟨N, hN⟩ : ∃ N, F.length = N := ⟨_, rfl⟩
  rw [hN] at HRow ⊢
  clear hN
  go_enter Try.func47, Try.ntmps47
  go_wp2_with (first
    | (refine wpList_alloc_h rfl 70 rfl (.agg #[.int .i64 0, .int .i64 0, .int .i64 0, .slice none 0 0]) (by kernel_rfl) #[.int .i64 0, .int .i64 0, .int .i64 0, .slice none 0 0] rfl ?_; intro w1 R1 e1 g1 b1; have HL1 := Lib.hid (show Lg w w1 [(R1, #[.int .i64 0, .int .i64 0, .int .i64 0, .slice none 0 0], 70)] [] from (Lg.first w).box e1 g1 b1); clear g1 b1 e1))
  refine (defs_any _).mono ?_
  rintro e w2 ⟨G, rfl, hT, h⟩
  obtain ⟨L2, e2⟩ : ∃ x, w1.heap.size = x := ⟨_, rfl⟩
  obtain ⟨H2, f2⟩ : ∃ x, w2.heap.size = x := ⟨_, rfl⟩
  have qL2_R1 : R1 < L2 := Nat.lt_of_lt_of_eq (HL1.out.lt (.head _)) e2
  have qH2_L2 : L2 ≤ H2 := (by rw [← e2, ← f2]; exact h.size)
  have HL2 := Lib.hid (show Lg w w2 [(R1, #[.int .i64 0, .int .i64 0, .int .i64 0, .slice none 0 0], 70)] [(L2, H2, fun W => RsNew fdL 3 77 L2 H2 W (aD L2 p) F)] from HL1.out.made e2 f2 h (by rw [← e2, ← f2]; exact (HN.out _ _ _ _ _ hT (Nat.le_refl _) hT.hi).solid))
  have HT2 := Lib.hid (show TabAt L2 G w2 from by rw [← e2]; exact hT)
  clear h hT e2 f2
  go_wp2_with fail
  refine ((HRow _ _ _ HT2.out).out).mono ?_
  rintro e w3 ⟨rfl, h⟩
  have HL3 := Lib.hid (show Lg w w3 [(R1, #[.int .i64 0, .int .i64 0, .int .i64 0, .slice none 0 0], 70)] [(L2, H2, fun W => RsNew fdL 3 77 L2 H2 W (aD L2 p) F)] from HL2.out.kept h)
  clear h
  go_wp2_with (first
    | (refine wpList_alloc_h rfl 70 rfl (.agg #[.int .i64 0, .int .i64 0, .int .i64 0, .slice none 0 0]) (by kernel_rfl) #[.int .i64 0, .int .i64 0, .int .i64 0, .slice none 0 0] rfl ?_; intro w4 R4 e4 g4 b4; have qR4_R1 : R1 < R4 := Nat.lt_of_lt_of_eq (HL3.out.lt (.head _)) e4; have qR4_H2 : H2 ≤ R4 := Nat.le_trans (HL3.out.hi (.head _)).2 (Nat.le_of_eq e4); have HL4 := Lib.hid (show Lg w w4 [(R4, #[.int .i64 0, .int .i64 0, .int .i64 0, .slice none 0 0], 70), (R1, #[.int .i64 0, .int .i64 0, .int .i64 0, .slice none 0 0], 70)] [(L2, H2, fun W => RsNew fdL 3 77 L2 H2 W (aD L2 p) F)] from HL3.out.box e4 g4 b4); clear g4 b4 e4)
    | (refine wpList_put_at rfl 70 (.tmp 3) (.tmp 9) rfl rfl (R4) 0 rfl (.agg #[.int .i64 P, .int .i64 S, .int .i64 R, .slice (aD L2 p) N N]) rfl #[.int .i64 P, .int .i64 S, .int .i64 R, .slice (aD L2 p) N N] rfl 70 #[.int .i64 0, .int .i64 0, .int .i64 0, .slice none 0 0] #[.int .i64 P, .int .i64 S, .int .i64 R, .slice (aD L2 p) N N] (HL4.out.get (.head _)) (by kernel_rfl) (by kernel_rfl) (by kernel_rfl) (by kernel_rfl) ?_; intro w5 g5 o5; have HL5 := Lib.hid (show Lg w w5 [(R4, #[.int .i64 P, .int .i64 S, .int .i64 R, .slice (aD L2 p) N N], 70), (R1, #[.int .i64 0, .int .i64 0, .int .i64 0, .slice none 0 0], 70)] [(L2, H2, fun W => RsNew fdL 3 77 L2 H2 W (aD L2 p) F)] from HL4.out.put 0 rfl g5 o5 (List.forall_mem_cons.2 ⟨Nat.ne_of_lt qR4_R1, (fun _ h => nomatch h)⟩) (List.forall_mem_cons.2 ⟨.inl qR4_H2, (fun _ h => nomatch h)⟩) rfl); clear g5 o5)
    | (refine wpList_load_at rfl 70 (.tmp 3) rfl (R4) 0 rfl 70 #[.int .i64 P, .int .i64 S, .int .i64 R, .slice (aD L2 p) N N] (0, 0) (HL5.out.get (.head _)) [.int .i64 P, .int .i64 S, .int .i64 R, .slice (aD L2 p) N N] rfl _ Try.underlying70 rfl (by kernel_rfl) ?_)
    | (refine wpList_put_at rfl 70 (.tmp 2) (.tmp 11) rfl rfl (R1) 0 rfl (.agg #[.int .i64 P, .int .i64 S, .int .i64 R, .slice (aD L2 p) N N]) rfl #[.int .i64 P, .int .i64 S, .int .i64 R, .slice (aD L2 p) N N] rfl 70 #[.int .i64 0, .int .i64 0, .int .i64 0, .slice none 0 0] #[.int .i64 P, .int .i64 S, .int .i64 R, .slice (aD L2 p) N N] (HL5.out.get (.tail _ (.head _))) (by kernel_rfl) (by kernel_rfl) (by kernel_rfl) (by kernel_rfl) ?_; intro w6 g6 o6; have HL6 := Lib.hid (show Lg w w6 [(R4, #[.int .i64 P, .int .i64 S, .int .i64 R, .slice (aD L2 p) N N], 70), (R1, #[.int .i64 P, .int .i64 S, .int .i64 R, .slice (aD L2 p) N N], 70)] [(L2, H2, fun W => RsNew fdL 3 77 L2 H2 W (aD L2 p) F)] from HL5.out.put 1 rfl g6 o6 (List.forall_mem_cons.2 ⟨Nat.ne_of_gt qR4_R1, (fun _ h => nomatch h)⟩) (List.forall_mem_cons.2 ⟨.inr qL2_R1, (fun _ h => nomatch h)⟩) rfl); clear g6 o6))
  exact bodyPost_ret (results_cell_row (p := 2) (ty := 70) (by kernel_rfl) _ _ (R1) 70 _ (0, 0) _ rfl (HL6.out.get (.tail _ (.head _))) Try.underlying70 rfl (by kernel_rfl)) rfl ⟨_, rfl, ((HL6.out.at (.head _)).wide (HL6.out.lo (.head _)) (HL6.out.hi (.head _)).2), HL6.out.below⟩
theorem l08Plain_any (a b : Int) (w : World) :
    Calls Try.prog 130 #[.int .i64 a, .int .i64 b] w fun e w' => e = .returned (.agg #[.int .i64 a, .int .i64 b, .bool false]) ∧ Below w.heap.size w w' := by
  go_enter Try.func130, Try.ntmps130
  go_wp2
  exact bodyPost_ret (v := .agg #[.int .i64 a, .int .i64 b, .bool false]) (by simp [results, Try.results130, go_sem]) rfl ⟨rfl, (Below.refl _ _).alloc (Nat.le_refl _) _⟩
theorem l08Signed_any (a b : Int) (w : World) :
    Calls Try.prog 131 #[.int .i64 a, .int .i64 b] w fun e w' => e = .returned (.agg #[.int .i64 a, .int .i64 b, .bool true]) ∧ Below w.heap.size w w' := by
  go_enter Try.func131, Try.ntmps131
  go_wp2
  exact bodyPost_ret (v := .agg #[.int .i64 a, .int .i64 b, .bool true]) (by simp [results, Try.results131, go_sem]) rfl ⟨rfl, (Below.refl _ _).alloc (Nat.le_refl _) _⟩
set_option maxRecDepth 100000 in
set_option maxHeartbeats 4000000 in
theorem specDefOf_0 (w : World) : Calls Try.prog 48 #[.int .i64 127250] w (DefOut 127250 w) := by
  unfold DefOut
  have hd : defD 127250 = ⟨127250, 8, 2, [⟨0, 8, false⟩, ⟨8, 16, false⟩, ⟨24, 16, true⟩, ⟨40, 16, true⟩, ⟨56, 2, false⟩]⟩ := rfl
  rw [hd]
  dsimp only [List.length_cons, List.length_nil]
  clear hd
  go_enter Try.func48, Try.ntmps48
  go_wp2_with (first
    | (refine wpList_alloc_h rfl 70 rfl (.agg #[.int .i64 0, .int .i64 0, .int .i64 0, .slice none 0 0]) (by kernel_rfl) #[.int .i64 0, .int .i64 0, .int .i64 0, .slice none 0 0] rfl ?_; intro w1 R1 e1 g1 b1; have HL1 := Lib.hid (show Lg w w1 [(R1, #[.int .i64 0, .int .i64 0, .int .i64 0, .slice none 0 0], 70)] [] from (Lg.first w).box e1 g1 b1); clear g1 b1 e1))
  refine (l08Plain_any 0 8 _).mono ?_
  rintro e w2 ⟨rfl, h⟩
  have HL2 := Lib.hid (show Lg w w2 [(R1, #[.int .i64 0, .int .i64 0, .int .i64 0, .slice none 0 0], 70)] [] from HL1.out.kept h)
  clear h
  go_wp2_with fail
  refine (l08Plain_any 8 16 _).mono ?_
  rintro e w3 ⟨rfl, h⟩
  have HL3 := Lib.hid (show Lg w w3 [(R1, #[.int .i64 0, .int .i64 0, .int .i64 0, .slice none 0 0], 70)] [] from HL2.out.kept h)
  clear h
  go_wp2_with fail
  refine (l08Signed_any 24 16 _).mono ?_
  rintro e w4 ⟨rfl, h⟩
  have HL4 := Lib.hid (show Lg w w4 [(R1, #[.int .i64 0, .int .i64 0, .int .i64 0, .slice none 0 0], 70)] [] from HL3.out.kept h)
  clear h
  go_wp2_with fail
  refine (l08Signed_any 40 16 _).mono ?_
  rintro e w5 ⟨rfl, h⟩
  have HL5 := Lib.hid (show Lg w w5 [(R1, #[.int .i64 0, .int .i64 0, .int .i64 0, .slice none 0 0], 70)] [] from HL4.out.kept h)
  clear h
  go_wp2_with fail
  refine (l08Plain_any 56 2 _).mono ?_
  rintro e w6 ⟨rfl, h⟩
  have HL6 := Lib.hid (show Lg w w6 [(R1, #[.int .i64 0, .int .i64 0, .int .i64 0, .slice none 0 0], 70)] [] from HL5.out.kept h)
  clear h
  obtain ⟨L, eL⟩ : ∃ x, w6.heap.size = x := ⟨_, rfl⟩
  obtain ⟨U, eU⟩ : ∃ U, w6.alloc (.cells #[.int .i64 0, .int .i64 8, .bool false, .int .i64 8, .int .i64 16, .bool false, .int .i64 24, .int .i64 16, .bool true, .int .i64 40, .int .i64 16, .bool true, .int .i64 56, .int .i64 2, .bool false] 77) = U := ⟨_, rfl⟩
  obtain ⟨H, eH⟩ : ∃ x, U.heap.size = x := ⟨_, rfl⟩
  have hbU : Below w6.heap.size w6 U := by rw [← eU]; exact (Below.refl _ _).alloc (Nat.le_refl _) _
  have hnU : RsNew fdL 3 77 L H U (some ⟨L, 0, none⟩) [⟨0, 8, false⟩, ⟨8, 16, false⟩, ⟨24, 16, true⟩, ⟨40, 16, true⟩, ⟨56, 2, false⟩] := .inr ⟨L, 0, _, rfl, Nat.le_refl _, by rw [← eL, ← eH, ← eU]; simp, by rw [← eL, ← eU]; exact heap_alloc_new _ _, by decide, fun i y hy j v hv => by
      have := flat_at fdL 3 fdL_len [⟨0, 8, false⟩, ⟨8, 16, false⟩, ⟨24, 16, true⟩, ⟨40, 16, true⟩, ⟨56, 2, false⟩] i y hy j v hv
      simpa [fdL] using this⟩
  have qL_R1 : R1 < L := Nat.lt_of_lt_of_eq (HL6.out.lt (.head _)) eL
  have HL7 := Lib.hid (show Lg w U [(R1, #[.int .i64 0, .int .i64 0, .int .i64 0, .slice none 0 0], 70)] [(L, H, fun W => RsNew fdL 3 77 L H W (some ⟨L, 0, none⟩) [⟨0, 8, false⟩, ⟨8, 16, false⟩, ⟨24, 16, true⟩, ⟨40, 16, true⟩, ⟨56, 2, false⟩])] from HL6.out.made eL eH hbU hnU.solid)
  clear hbU hnU
  go_wp2_with (first
    | (rw [eU, eL]; refine wpList_put_at rfl 70 (.tmp 2) (.tmp 13) rfl rfl (R1) 0 rfl (.agg #[.int .i64 127250, .int .i64 8, .int .i64 2, .slice (some ⟨L, 0, none⟩) 5 5]) rfl #[.int .i64 127250, .int .i64 8, .int .i64 2, .slice (some ⟨L, 0, none⟩) 5 5] rfl 70 #[.int .i64 0, .int .i64 0, .int .i64 0, .slice none 0 0] #[.int .i64 127250, .int .i64 8, .int .i64 2, .slice (some ⟨L, 0, none⟩) 5 5] (HL7.out.get (.head _)) (by kernel_rfl) (by kernel_rfl) (by kernel_rfl) (by kernel_rfl) ?_; intro w8 g8 o8; have HL8 := Lib.hid (show Lg w w8 [(R1, #[.int .i64 127250, .int .i64 8, .int .i64 2, .slice (some ⟨L, 0, none⟩) 5 5], 70)] [(L, H, fun W => RsNew fdL 3 77 L H W (some ⟨L, 0, none⟩) [⟨0, 8, false⟩, ⟨8, 16, false⟩, ⟨24, 16, true⟩, ⟨40, 16, true⟩, ⟨56, 2, false⟩])] from HL7.out.put 0 rfl g8 o8 (fun _ h => nomatch h) (List.forall_mem_cons.2 ⟨.inr qL_R1, (fun _ h => nomatch h)⟩) rfl); clear g8 o8)
    | (refine wpList_put_at rfl 70 (.tmp 2) (.tmp 13) rfl rfl (R1) 0 rfl (.agg #[.int .i64 127250, .int .i64 8, .int .i64 2, .slice (some ⟨L, 0, none⟩) 5 5]) rfl #[.int .i64 127250, .int .i64 8, .int .i64 2, .slice (some ⟨L, 0, none⟩) 5 5] rfl 70 #[.int .i64 0, .int .i64 0, .int .i64 0, .slice none 0 0] #[.int .i64 127250, .int .i64 8, .int .i64 2, .slice (some ⟨L, 0, none⟩) 5 5] (HL7.out.get (.head _)) (by kernel_rfl) (by kernel_rfl) (by kernel_rfl) (by kernel_rfl) ?_; intro w8 g8 o8; have HL8 := Lib.hid (show Lg w w8 [(R1, #[.int .i64 127250, .int .i64 8, .int .i64 2, .slice (some ⟨L, 0, none⟩) 5 5], 70)] [(L, H, fun W => RsNew fdL 3 77 L H W (some ⟨L, 0, none⟩) [⟨0, 8, false⟩, ⟨8, 16, false⟩, ⟨24, 16, true⟩, ⟨40, 16, true⟩, ⟨56, 2, false⟩])] from HL7.out.put 0 rfl g8 o8 (fun _ h => nomatch h) (List.forall_mem_cons.2 ⟨.inr qL_R1, (fun _ h => nomatch h)⟩) rfl); clear g8 o8))
  exact bodyPost_ret (results_cell_row (p := 2) (ty := 70) (by kernel_rfl) _ _ (R1) 70 _ (0, 0) _ rfl (HL8.out.get (.head _)) Try.underlying70 rfl (by kernel_rfl)) rfl ⟨_, rfl, ((HL8.out.at (.head _)).wide (HL8.out.lo (.head _)) (HL8.out.hi (.head _)).2), HL8.out.below⟩
set_option maxRecDepth 100000 in
set_option maxHeartbeats 4000000 in
theorem specDefOf_1 (w : World) : Calls Try.prog 48 #[.int .i64 127488] w (DefOut 127488 w) := by
  unfold DefOut
  have hd : defD 127488 = ⟨127488, 8, 2, [⟨0, 8, false⟩, ⟨8, 16, false⟩, ⟨24, 16, false⟩, ⟨40, 8, true⟩]⟩ := rfl
  rw [hd]
  dsimp only [List.length_cons, List.length_nil]
  clear hd
  have n0 : ((127488 : Int) == 127250) = false := by decide
  go_enter Try.func48, Try.ntmps48
  go_wp2_with (first
    | (refine wpList_alloc_h rfl 70 rfl (.agg #[.int .i64 0, .int .i64 0, .int .i64 0, .slice none 0 0]) (by kernel_rfl) #[.int .i64 0, .int .i64 0, .int .i64 0, .slice none 0 0] rfl ?_; intro w1 R1 e1 g1 b1; have HL1 := Lib.hid (show Lg w w1 [(R1, #[.int .i64 0, .int .i64 0, .int .i64 0, .slice none 0 0], 70)] [] from (Lg.first w).box e1 g1 b1); clear g1 b1 e1))
  refine (l08Plain_any 0 8 _).mono ?_
  rintro e w2 ⟨rfl, h⟩
  have HL2 := Lib.hid (show Lg w w2 [(R1, #[.int .i64 0, .int .i64 0, .int .i64 0, .slice none 0 0], 70)] [] from HL1.out.kept h)
  clear h
  go_wp2_with fail
  refine (l08Plain_any 8 16 _).mono ?_
  rintro e w3 ⟨rfl, h⟩
  have HL3 := Lib.hid (show Lg w w3 [(R1, #[.int .i64 0, .int .i64 0, .int .i64 0, .slice none 0 0], 70)] [] from HL2.out.kept h)
  clear h
  go_wp2_with fail
  refine (l08Plain_any 24 16 _).mono ?_
  rintro e w4 ⟨rfl, h⟩
  have HL4 := Lib.hid (show Lg w w4 [(R1, #[.int .i64 0, .int .i64 0, .int .i64 0, .slice none 0 0], 70)] [] from HL3.out.kept h)
  clear h
  go_wp2_with fail
  refine (l08Signed_any 40 8 _).mono ?_
  rintro e w5 ⟨rfl, h⟩
  have HL5 := Lib.hid (show Lg w w5 [(R1, #[.int .i64 0, .int .i64 0, .int .i64 0, .slice none 0 0], 70)] [] from HL4.out.kept h)
  clear h
  obtain ⟨L, eL⟩ : ∃ x, w5.heap.size = x := ⟨_, rfl⟩
  obtain ⟨U, eU⟩ : ∃ U, w5.alloc (.cells #[.int .i64 0, .int .i64 8, .bool false, .int .i64 8, .int .i64 16, .bool false, .int .i64 24, .int .i64 16, .bool false, .int .i64 40, .int .i64 8, .bool true] 77) = U := ⟨_, rfl⟩
  obtain ⟨H, eH⟩ : ∃ x, U.heap.size = x := ⟨_, rfl⟩
  have hbU : Below w5.heap.size w5 U := by rw [← eU]; exact (Below.refl _ _).alloc (Nat.le_refl _) _
  have hnU : RsNew fdL 3 77 L H U (some ⟨L, 0, none⟩) [⟨0, 8, false⟩, ⟨8, 16, false⟩, ⟨24, 16, false⟩, ⟨40, 8, true⟩] := .inr ⟨L, 0, _, rfl, Nat.le_refl _, by rw [← eL, ← eH, ← eU]; simp, by rw [← eL, ← eU]; exact heap_alloc_new _ _, by decide, fun i y hy j v hv => by
      have := flat_at fdL 3 fdL_len [⟨0, 8, false⟩, ⟨8, 16, false⟩, ⟨24, 16, false⟩, ⟨40, 8, true⟩] i y hy j v hv
      simpa [fdL] using this⟩
  have qL_R1 : R1 < L := Nat.lt_of_lt_of_eq (HL5.out.lt (.head _)) eL
  have HL6 := Lib.hid (show Lg w U [(R1, #[.int .i64 0, .int .i64 0, .int .i64 0, .slice none 0 0], 70)] [(L, H, fun W => RsNew fdL 3 77 L H W (some ⟨L, 0, none⟩) [⟨0, 8, false⟩, ⟨8, 16, false⟩, ⟨24, 16, false⟩, ⟨40, 8, true⟩])] from HL5.out.made eL eH hbU hnU.solid)
  clear hbU hnU
  go_wp2_with (first
    | (rw [eU, eL]; refine wpList_put_at rfl 70 (.tmp 2) (.tmp 22) rfl rfl (R1) 0 rfl (.agg #[.int .i64 127488, .int .i64 8, .int .i64 2, .slice (some ⟨L, 0, none⟩) 4 4]) rfl #[.int .i64 127488, .int .i64 8, .int .i64 2, .slice (some ⟨L, 0, none⟩) 4 4] rfl 70 #[.int .i64 0, .int .i64 0, .int .i64 0, .slice none 0 0] #[.int .i64 127488, .int .i64 8, .int .i64 2, .slice (some ⟨L, 0, none⟩) 4 4] (HL6.out.get (.head _)) (by kernel_rfl) (by kernel_rfl) (by kernel_rfl) (by kernel_rfl) ?_; intro w7 g7 o7; have HL7 := Lib.hid (show Lg w w7 [(R1, #[.int .i64 127488, .int .i64 8, .int .i64 2, .slice (some ⟨L, 0, none⟩) 4 4], 70)] [(L, H, fun W => RsNew fdL 3 77 L H W (some ⟨L, 0, none⟩) [⟨0, 8, false⟩, ⟨8, 16, false⟩, ⟨24, 16, false⟩, ⟨40, 8, true⟩])] from HL6.out.put 0 rfl g7 o7 (fun _ h => nomatch h) (List.forall_mem_cons.2 ⟨.inr qL_R1, (fun _ h => nomatch h)⟩) rfl); clear g7 o7)
    | (refine wpList_put_at rfl 70 (.tmp 2) (.tmp 22) rfl rfl (R1) 0 rfl (.agg #[.int .i64 127488, .int .i64 8, .int .i64 2, .slice (some ⟨L, 0, none⟩) 4 4]) rfl #[.int .i64 127488, .int .i64 8, .int .i64 2, .slice (some ⟨L, 0, none⟩) 4 4] rfl 70 #[.int .i64 0, .int .i64 0, .int .i64 0, .slice none 0 0] #[.int .i64 127488, .int .i64 8, .int .i64 2, .slice (some ⟨L, 0, none⟩) 4 4] (HL6.out.get (.head _)) (by kernel_rfl) (by kernel_rfl) (by kernel_rfl) (by kernel_rfl) ?_; intro w7 g7 o7; have HL7 := Lib.hid (show Lg w w7 [(R1, #[.int .i64 127488, .int .i64 8, .int .i64 2, .slice (some ⟨L, 0, none⟩) 4 4], 70)] [(L, H, fun W => RsNew fdL 3 77 L H W (some ⟨L, 0, none⟩) [⟨0, 8, false⟩, ⟨8, 16, false⟩, ⟨24, 16, false⟩, ⟨40, 8, true⟩])] from HL6.out.put 0 rfl g7 o7 (fun _ h => nomatch h) (List.forall_mem_cons.2 ⟨.inr qL_R1, (fun _ h => nomatch h)⟩) rfl); clear g7 o7))
  exact bodyPost_ret (results_cell_row (p := 2) (ty := 70) (by kernel_rfl) _ _ (R1) 70 _ (0, 0) _ rfl (HL7.out.get (.head _)) Try.underlying70 rfl (by kernel_rfl)) rfl ⟨_, rfl, ((HL7.out.at (.head _)).wide (HL7.out.lo (.head _)) (HL7.out.hi (.head _)).2), HL7.out.below⟩
set_option maxRecDepth 100000 in
set_option maxHeartbeats 4000000 in
theorem specDefOf_2 (w : World) : Calls Try.prog 48 #[.int .i64 128267] w (DefOut 128267 w) := by
  unfold DefOut
  have hd : defD 128267 = ⟨128267, 8, 3, [⟨0, 8, false⟩, ⟨8, 32, false⟩, ⟨40, 16, true⟩, ⟨56, 8, false⟩]⟩ := rfl
  rw [hd]
  dsimp only [List.length_cons, List.length_nil]
  clear hd
  have n0 : ((128267 : Int) == 127250) = false := by decide
  have n1 : ((128267 : Int) == 127488) = false := by decide
  go_enter Try.func48, Try.ntmps48
  go_wp2_with (first
    | (refine wpList_alloc_h rfl 70 rfl (.agg #[.int .i64 0, .int .i64 0, .int .i64 0, .slice none 0 0]) (by kernel_rfl) #[.int .i64 0, .int .i64 0, .int .i64 0, .slice none 0 0] rfl ?_; intro w1 R1 e1 g1 b1; have HL1 := Lib.hid (show Lg w w1 [(R1, #[.int .i64 0, .int .i64 0, .int .i64 0, .slice none 0 0], 70)] [] from (Lg.first w).box e1 g1 b1); clear g1 b1 e1))
  refine (l08Plain_any 0 8 _).mono ?_
  rintro e w2 ⟨rfl, h⟩
  have HL2 := Lib.hid (show Lg w w2 [(R1, #[.int .i64 0, .int .i64 0, .int .i64 0, .slice none 0 0], 70)] [] from HL1.out.kept h)
  clear h
  go_wp2_with fail
  refine (l08Plain_any 8 32 _).mono ?_
  rintro e w3 ⟨rfl, h⟩
  have HL3 := Lib.hid (show Lg w w3 [(R1, #[.int .i64 0, .int .i64 0, .int .i64 0, .slice none 0 0], 70)] [] from HL2.out.kept h)
  clear h
  go_wp2_with fail
  refine (l08Signed_any 40 16 _).mono ?_
  rintro e w4 ⟨rfl, h⟩
  have HL4 := Lib.hid (show Lg w w4 [(R1, #[.int .i64 0, .int .i64 0, .int .i64 0, .slice none 0 0], 70)] [] from HL3.out.kept h)
  clear h
  go_wp2_with fail
  refine (l08Plain_any 56 8 _).mono ?_
  rintro e w5 ⟨rfl, h⟩
  have HL5 := Lib.hid (show Lg w w5 [(R1, #[.int .i64 0, .int .i64 0, .int .i64 0, .slice none 0 0], 70)] [] from HL4.out.kept h)
  clear h
  obtain ⟨L, eL⟩ : ∃ x, w5.heap.size = x := ⟨_, rfl⟩
  obtain ⟨U, eU⟩ : ∃ U, w5.alloc (.cells #[.int .i64 0, .int .i64 8, .bool false, .int .i64 8, .int .i64 32, .bool false, .int .i64 40, .int .i64 16, .bool true, .int .i64 56, .int .i64 8, .bool false] 77) = U := ⟨_, rfl⟩
  obtain ⟨H, eH⟩ : ∃ x, U.heap.size = x := ⟨_, rfl⟩
  have hbU : Below w5.heap.size w5 U := by rw [← eU]; exact (Below.refl _ _).alloc (Nat.le_refl _) _
  have hnU : RsNew fdL 3 77 L H U (some ⟨L, 0, none⟩) [⟨0, 8, false⟩, ⟨8, 32, false⟩, ⟨40, 16, true⟩, ⟨56, 8, false⟩] := .inr ⟨L, 0, _, rfl, Nat.le_refl _, by rw [← eL, ← eH, ← eU]; simp, by rw [← eL, ← eU]; exact heap_alloc_new _ _, by decide, fun i y hy j v hv => by
      have := flat_at fdL 3 fdL_len [⟨0, 8, false⟩, ⟨8, 32, false⟩, ⟨40, 16, true⟩, ⟨56, 8, false⟩] i y hy j v hv
      simpa [fdL] using this⟩
  have qL_R1 : R1 < L := Nat.lt_of_lt_of_eq (HL5.out.lt (.head _)) eL
  have HL6 := Lib.hid (show Lg w U [(R1, #[.int .i64 0, .int .i64 0, .int .i64 0, .slice none 0 0], 70)] [(L, H, fun W => RsNew fdL 3 77 L H W (some ⟨L, 0, none⟩) [⟨0, 8, false⟩, ⟨8, 32, false⟩, ⟨40, 16, true⟩, ⟨56, 8, false⟩])] from HL5.out.made eL eH hbU hnU.solid)
  clear hbU hnU
  go_wp2_with (first
    | (rw [eU, eL]; refine wpList_put_at rfl 70 (.tmp 2) (.tmp 31) rfl rfl (R1) 0 rfl (.agg #[.int .i64 128267, .int .i64 8, .int .i64 3, .slice (some ⟨L, 0, none⟩) 4 4]) rfl #[.int .i64 128267, .int .i64 8, .int .i64 3, .slice (some ⟨L, 0, none⟩) 4 4] rfl 70 #[.int .i64 0, .int .i64 0, .int .i64 0, .slice none 0 0] #[.int .i64 128267, .int .i64 8, .int .i64 3, .slice (some ⟨L, 0, none⟩) 4 4] (HL6.out.get (.head _)) (by kernel_rfl) (by kernel_rfl) (by kernel_rfl) (by kernel_rfl) ?_; intro w7 g7 o7; have HL7 := Lib.hid (show Lg w w7 [(R1, #[.int .i64 128267, .int .i64 8, .int .i64 3, .slice (some ⟨L, 0, none⟩) 4 4], 70)] [(L, H, fun W => RsNew fdL 3 77 L H W (some ⟨L, 0, none⟩) [⟨0, 8, false⟩, ⟨8, 32, false⟩, ⟨40, 16, true⟩, ⟨56, 8, false⟩])] from HL6.out.put 0 rfl g7 o7 (fun _ h => nomatch h) (List.forall_mem_cons.2 ⟨.inr qL_R1, (fun _ h => nomatch h)⟩) rfl); clear g7 o7)
    | (refine wpList_put_at rfl 70 (.tmp 2) (.tmp 31) rfl rfl (R1) 0 rfl (.agg #[.int .i64 128267, .int .i64 8, .int .i64 3, .slice (some ⟨L, 0, none⟩) 4 4]) rfl #[.int .i64 128267, .int .i64 8, .int .i64 3, .slice (some ⟨L, 0, none⟩) 4 4] rfl 70 #[.int .i64 0, .int .i64 0, .int .i64 0, .slice none 0 0] #[.int .i64 128267, .int .i64 8, .int .i64 3, .slice (some ⟨L, 0, none⟩) 4 4] (HL6.out.get (.head _)) (by kernel_rfl) (by kernel_rfl) (by kernel_rfl) (by kernel_rfl) ?_; intro w7 g7 o7; have HL7 := Lib.hid (show Lg w w7 [(R1, #[.int .i64 128267, .int .i64 8, .int .i64 3, .slice (some ⟨L, 0, none⟩) 4 4], 70)] [(L, H, fun W => RsNew fdL 3 77 L H W (some ⟨L, 0, none⟩) [⟨0, 8, false⟩, ⟨8, 32, false⟩, ⟨40, 16, true⟩, ⟨56, 8, false⟩])] from HL6.out.put 0 rfl g7 o7 (fun _ h => nomatch h) (List.forall_mem_cons.2 ⟨.inr qL_R1, (fun _ h => nomatch h)⟩) rfl); clear g7 o7))
  exact bodyPost_ret (results_cell_row (p := 2) (ty := 70) (by kernel_rfl) _ _ (R1) 70 _ (0, 0) _ rfl (HL7.out.get (.head _)) Try.underlying70 rfl (by kernel_rfl)) rfl ⟨_, rfl, ((HL7.out.at (.head _)).wide (HL7.out.lo (.head _)) (HL7.out.hi (.head _)).2), HL7.out.below⟩
set_option maxRecDepth 100000 in
set_option maxHeartbeats 4000000 in
theorem specDefOf_3 (w : World) : Calls Try.prog 48 #[.int .i64 128275] w (DefOut 128275 w) := by
  unfold DefOut
  have hd : defD 128275 = ⟨128275, 14, 6, [⟨0, 16, false⟩, ⟨16, 32, false⟩, ⟨48, 32, false⟩, ⟨80, 32, false⟩]⟩ := rfl
  rw [hd]
  dsimp only [List.length_cons, List.length_nil]
  clear hd
  have n0 : ((128275 : Int) == 127250) = false := by decide
  have n1 : ((128275 : Int) == 127488) = false := by decide
  have n2 : ((128275 : Int) == 128267) = false := by decide
  go_enter Try.func48, Try.ntmps48
  go_wp2_with (first
    | (refine wpList_alloc_h rfl 70 rfl (.agg #[.int .i64 0, .int .i64 0, .int .i64 0, .slice none 0 0]) (by kernel_rfl) #[.int .i64 0, .int .i64 0, .int .i64 0, .slice none 0 0] rfl ?_; intro w1 R1 e1 g1 b1; have HL1 := Lib.hid (show Lg w w1 [(R1, #[.int .i64 0, .int .i64 0, .int .i64 0, .slice none 0 0], 70)] [] from (Lg.first w).box e1 g1 b1); clear g1 b1 e1))
  refine (l08Plain_any 0 16 _).mono ?_
  rintro e w2 ⟨rfl, h⟩
  have HL2 := Lib.hid (show Lg w w2 [(R1, #[.int .i64 0, .int .i64 0, .int .i64 0, .slice none 0 0], 70)] [] from HL1.out.kept h)
  clear h
  go_wp2_with fail
  refine (l08Plain_any 16 32 _).mono ?_
  rintro e w3 ⟨rfl, h⟩
  have HL3 := Lib.hid (show Lg w w3 [(R1, #[.int .i64 0, .int .i64 0, .int .i64 0, .slice none 0 0], 70)] [] from HL2.out.kept h)
  clear h
  go_wp2_with fail
  refine (l08Plain_any 48 32 _).mono ?_
  rintro e w4 ⟨rfl, h⟩
  have HL4 := Lib.hid (show Lg w w4 [(R1, #[.int .i64 0, .int .i64 0, .int .i64 0, .slice none 0 0], 70)] [] from HL3.out.kept h)
  clear h
  go_wp2_with fail
  refine (l08Plain_any 80 32 _).mono ?_
  rintro e w5 ⟨rfl, h⟩
  have HL5 := Lib.hid (show Lg w w5 [(R1, #[.int .i64 0, .int .i64 0, .int .i64 0, .slice none 0 0], 70)] [] from HL4.out.kept h)
  clear h
  obtain ⟨L, eL⟩ : ∃ x, w5.heap.size = x := ⟨_, rfl⟩
  obtain ⟨U, eU⟩ : ∃ U, w5.alloc (.cells #[.int .i64 0, .int .i64 16, .bool false, .int .i64 16, .int .i64 32, .bool false, .int .i64 48, .int .i64 32, .bool false, .int .i64 80, .int .i64 32, .bool false] 77) = U := ⟨_, rfl⟩
  obtain ⟨H, eH⟩ : ∃ x, U.heap.size = x := ⟨_, rfl⟩
  have hbU : Below w5.heap.size w5 U := by rw [← eU]; exact (Below.refl _ _).alloc (Nat.le_refl _) _
  have hnU : RsNew fdL 3 77 L H U (some ⟨L, 0, none⟩) [⟨0, 16, false⟩, ⟨16, 32, false⟩, ⟨48, 32, false⟩, ⟨80, 32, false⟩] := .inr ⟨L, 0, _, rfl, Nat.le_refl _, by rw [← eL, ← eH, ← eU]; simp, by rw [← eL, ← eU]; exact heap_alloc_new _ _, by decide, fun i y hy j v hv => by
      have := flat_at fdL 3 fdL_len [⟨0, 16, false⟩, ⟨16, 32, false⟩, ⟨48, 32, false⟩, ⟨80, 32, false⟩] i y hy j v hv
      simpa [fdL] using this⟩
  have qL_R1 : R1 < L := Nat.lt_of_lt_of_eq (HL5.out.lt (.head _)) eL
  have HL6 := Lib.hid (show Lg w U [(R1, #[.int .i64 0, .int .i64 0, .int .i64 0, .slice none 0 0], 70)] [(L, H, fun W => RsNew fdL 3 77 L H W (some ⟨L, 0, none⟩) [⟨0, 16, false⟩, ⟨16, 32, false⟩, ⟨48, 32, false⟩, ⟨80, 32, false⟩])] from HL5.out.made eL eH hbU hnU.solid)
  clear hbU hnU
  go_wp2_with (first
    | (rw [eU, eL]; refine wpList_put_at rfl 70 (.tmp 2) (.tmp 40) rfl rfl (R1) 0 rfl (.agg #[.int .i64 128275, .int .i64 14, .int .i64 6, .slice (some ⟨L, 0, none⟩) 4 4]) rfl #[.int .i64 128275, .int .i64 14, .int .i64 6, .slice (some ⟨L, 0, none⟩) 4 4] rfl 70 #[.int .i64 0, .int .i64 0, .int .i64 0, .slice none 0 0] #[.int .i64 128275, .int .i64 14, .int .i64 6, .slice (some ⟨L, 0, none⟩) 4 4] (HL6.out.get (.head _)) (by kernel_rfl) (by kernel_rfl) (by kernel_rfl) (by kernel_rfl) ?_; intro w7 g7 o7; have HL7 := Lib.hid (show Lg w w7 [(R1, #[.int .i64 128275, .int .i64 14, .int .i64 6, .slice (some ⟨L, 0, none⟩) 4 4], 70)] [(L, H, fun W => RsNew fdL 3 77 L H W (some ⟨L, 0, none⟩) [⟨0, 16, false⟩, ⟨16, 32, false⟩, ⟨48, 32, false⟩, ⟨80, 32, false⟩])] from HL6.out.put 0 rfl g7 o7 (fun _ h => nomatch h) (List.forall_mem_cons.2 ⟨.inr qL_R1, (fun _ h => nomatch h)⟩) rfl); clear g7 o7)
    | (refine wpList_put_at rfl 70 (.tmp 2) (.tmp 40) rfl rfl (R1) 0 rfl (.agg #[.int .i64 128275, .int .i64 14, .int .i64 6, .slice (some ⟨L, 0, none⟩) 4 4]) rfl #[.int .i64 128275, .int .i64 14, .int .i64 6, .slice (some ⟨L, 0, none⟩) 4 4] rfl 70 #[.int .i64 0, .int .i64 0, .int .i64 0, .slice none 0 0] #[.int .i64 128275, .int .i64 14, .int .i64 6, .slice (some ⟨L, 0, none⟩) 4 4] (HL6.out.get (.head _)) (by kernel_rfl) (by kernel_rfl) (by kernel_rfl) (by kernel_rfl) ?_; intro w7 g7 o7; have HL7 := Lib.hid (show Lg w w7 [(R1, #[.int .i64 128275, .int .i64 14, .int .i64 6, .slice (some ⟨L, 0, none⟩) 4 4], 70)] [(L, H, fun W => RsNew fdL 3 77 L H W (some ⟨L, 0, none⟩) [⟨0, 16, false⟩, ⟨16, 32, false⟩, ⟨48, 32, false⟩, ⟨80, 32, false⟩])] from HL6.out.put 0 rfl g7 o7 (fun _ h => nomatch h) (List.forall_mem_cons.2 ⟨.inr qL_R1, (fun _ h => nomatch h)⟩) rfl); clear g7 o7))
  exact bodyPost_ret (results_cell_row (p := 2) (ty := 70) (by kernel_rfl) _ _ (R1) 70 _ (0, 0) _ rfl (HL7.out.get (.head _)) Try.underlying70 rfl (by kernel_rfl)) rfl ⟨_, rfl, ((HL7.out.at (.head _)).wide (HL7.out.lo (.head _)) (HL7.out.hi (.head _)).2), HL7.out.below⟩
set_option maxRecDepth 100000 in
set_option maxHeartbeats 4000000 in
theorem specDefOf_4 (w : World) : Calls Try.prog 48 #[.int .i64 129025] w (DefOut 129025 w) := by
  unfold DefOut
  have hd : defD 129025 = ⟨129025, 8, 2, [⟨0, 32, true⟩, ⟨32, 32, true⟩]⟩ := rfl
  rw [hd]
  dsimp only [List.length_cons, List.length_nil]
  clear hd
  have n0 : ((129025 : Int) == 127250) = false := by decide
  have n1 : ((129025 : Int) == 127488) = false := by decide
  have n2 : ((129025 : Int) == 128267) = false := by decide
  have n3 : ((129025 : Int) == 128275) = false := by decide
  go_enter Try.func48, Try.ntmps48
  go_wp2_with (first
    | (refine wpList_alloc_h rfl 70 rfl (.agg #[.int .i64 0, .int .i64 0, .int .i64 0, .slice none 0 0]) (by kernel_rfl) #[.int .i64 0, .int .i64 0, .int .i64 0, .slice none 0 0] rfl ?_; intro w1 R1 e1 g1 b1; have HL1 := Lib.hid (show Lg w w1 [(R1, #[.int .i64 0, .int .i64 0, .int .i64 0, .slice none 0 0], 70)] [] from (Lg.first w).box e1 g1 b1); clear g1 b1 e1))
  refine (l08Signed_any 0 32 _).mono ?_
  rintro e w2 ⟨rfl, h⟩
  have HL2 := Lib.hid (show Lg w w2 [(R1, #[.int .i64 0, .int .i64 0, .int .i64 0, .slice none 0 0], 70)] [] from HL1.out.kept h)
  clear h
  go_wp2_with fail
  refine (l08Signed_any 32 32 _).mono ?_
  rintro e w3 ⟨rfl, h⟩
  have HL3 := Lib.hid (show Lg w w3 [(R1, #[.int .i64 0, .int .i64 0, .int .i64 0, .slice none 0 0], 70)] [] from HL2.out.kept h)
  clear h
  obtain ⟨L, eL⟩ : ∃ x, w3.heap.size = x := ⟨_, rfl⟩
  obtain ⟨U, eU⟩ : ∃ U, w3.alloc (.cells #[.int .i64 0, .int .i64 32, .bool true, .int .i64 32, .int .i64 32, .bool true] 77) = U := ⟨_, rfl⟩
  obtain ⟨H, eH⟩ : ∃ x, U.heap.size = x := ⟨_, rfl⟩
  have hbU : Below w3.heap.size w3 U := by rw [← eU]; exact (Below.refl _ _).alloc (Nat.le_refl _) _
  have hnU : RsNew fdL 3 77 L H U (some ⟨L, 0, none⟩) [⟨0, 32, true⟩, ⟨32, 32, true⟩] := .inr ⟨L, 0, _, rfl, Nat.le_refl _, by rw [← eL, ← eH, ← eU]; simp, by rw [← eL, ← eU]; exact heap_alloc_new _ _, by decide, fun i y hy j v hv => by
      have := flat_at fdL 3 fdL_len [⟨0, 32, true⟩, ⟨32, 32, true⟩] i y hy j v hv
      simpa [fdL] using this⟩
  have qL_R1 : R1 < L := Nat.lt_of_lt_of_eq (HL3.out.lt (.head _)) eL
  have HL4 := Lib.hid (show Lg w U [(R1, #[.int .i64 0, .int .i64 0, .int .i64 0, .slice none 0 0], 70)] [(L, H, fun W => RsNew fdL 3 77 L H W (some ⟨L, 0, none⟩) [⟨0, 32, true⟩, ⟨32, 32, true⟩])] from HL3.out.made eL eH hbU hnU.solid)
  clear hbU hnU
  go_wp2_with (first
    | (rw [eU, eL]; refine wpList_put_at rfl 70 (.tmp 2) (.tmp 47) rfl rfl (R1) 0 rfl (.agg #[.int .i64 129025, .int .i64 8, .int .i64 2, .slice (some ⟨L, 0, none⟩) 2 2]) rfl #[.int .i64 129025, .int .i64 8, .int .i64 2, .slice (some ⟨L, 0, none⟩) 2 2] rfl 70 #[.int .i64 0, .int .i64 0, .int .i64 0, .slice none 0 0] #[.int .i64 129025, .int .i64 8, .int .i64 2, .slice (some ⟨L, 0, none⟩) 2 2] (HL4.out.get (.head _)) (by kernel_rfl) (by kernel_rfl) (by kernel_rfl) (by kernel_rfl) ?_; intro w5 g5 o5; have HL5 := Lib.hid (show Lg w w5 [(R1, #[.int .i64 129025, .int .i64 8, .int .i64 2, .slice (some ⟨L, 0, none⟩) 2 2], 70)] [(L, H, fun W => RsNew fdL 3 77 L H W (some ⟨L, 0, none⟩) [⟨0, 32, true⟩, ⟨32, 32, true⟩])] from HL4.out.put 0 rfl g5 o5 (fun _ h => nomatch h) (List.forall_mem_cons.2 ⟨.inr qL_R1, (fun _ h => nomatch h)⟩) rfl); clear g5 o5)
    | (refine wpList_put_at rfl 70 (.tmp 2) (.tmp 47) rfl rfl (R1) 0 rfl (.agg #[.int .i64 129025, .int .i64 8, .int .i64 2, .slice (some ⟨L, 0, none⟩) 2 2]) rfl #[.int .i64 129025, .int .i64 8, .int .i64 2, .slice (some ⟨L, 0, none⟩) 2 2] rfl 70 #[.int .i64 0, .int .i64 0, .int .i64 0, .slice none 0 0] #[.int .i64 129025, .int .i64 8, .int .i64 2, .slice (some ⟨L, 0, none⟩) 2 2] (HL4.out.get (.head _)) (by kernel_rfl) (by kernel_rfl) (by kernel_rfl) (by kernel_rfl) ?_; intro w5 g5 o5; have HL5 := Lib.hid (show Lg w w5 [(R1, #[.int .i64 129025, .int .i64 8, .int .i64 2, .slice (some ⟨L, 0, none⟩) 2 2], 70)] [(L, H, fun W => RsNew fdL 3 77 L H W (some ⟨L, 0, none⟩) [⟨0, 32, true⟩, ⟨32, 32, true⟩])] from HL4.out.put 0 rfl g5 o5 (fun _ h => nomatch h) (List.forall_mem_cons.2 ⟨.inr qL_R1, (fun _ h => nomatch h)⟩) rfl); clear g5 o5))
  exact bodyPost_ret (results_cell_row (p := 2) (ty := 70) (by kernel_rfl) _ _ (R1) 70 _ (0, 0) _ rfl (HL5.out.get (.head _)) Try.underlying70 rfl (by kernel_rfl)) rfl ⟨_, rfl, ((HL5.out.at (.head _)).wide (HL5.out.lo (.head _)) (HL5.out.hi (.head _)).2), HL5.out.below⟩
set_option maxRecDepth 100000 in
set_option maxHeartbeats 4000000 in
theorem specDefOf_5 (w : World) : Calls Try.prog 48 #[.int .i64 130306] w (DefOut 130306 w) := by
  unfold DefOut
  have hd : defD 130306 = ⟨130306, 8, 2, [⟨0, 8, false⟩, ⟨8, 16, false⟩, ⟨24, 16, false⟩, ⟨40, 3, false⟩]⟩ := rfl
  rw [hd]
  dsimp only [List.length_cons, List.length_nil]
  clear hd
  have n0 : ((130306 : Int) == 127250) = false := by decide
  have n1 : ((130306 : Int) == 127488) = false := by decide
  have n2 : ((130306 : Int) == 128267) = false := by decide
  have n3 : ((130306 : Int) == 128275) = false := by decide
  have n4 : ((130306 : Int) == 129025) = false := by decide
  go_enter Try.func48, Try.ntmps48
  go_wp2_with (first
    | (refine wpList_alloc_h rfl 70 rfl (.agg #[.int .i64 0, .int .i64 0, .int .i64 0, .slice none 0 0]) (by kernel_rfl) #[.int .i64 0, .int .i64 0, .int .i64 0, .slice none 0 0] rfl ?_; intro w1 R1 e1 g1 b1; have HL1 := Lib.hid (show Lg w w1 [(R1, #[.int .i64 0, .int .i64 0, .int .i64 0, .slice none 0 0], 70)] [] from (Lg.first w).box e1 g1 b1); clear g1 b1 e1))
  refine (l08Plain_any 0 8 _).mono ?_
  rintro e w2 ⟨rfl, h⟩
  have HL2 := Lib.hid (show Lg w w2 [(R1, #[.int .i64 0, .int .i64 0, .int .i64 0, .slice none 0 0], 70)] [] from HL1.out.kept h)
  clear h
  go_wp2_with fail
  refine (l08Plain_any 8 16 _).mono ?_
  rintro e w3 ⟨rfl, h⟩
  have HL3 := Lib.hid (show Lg w w3 [(R1, #[.int .i64 0, .int .i64 0, .int .i64 0, .slice none 0 0], 70)] [] from HL2.out.kept h)
  clear h
  go_wp2_with fail
  refine (l08Plain_any 24 16 _).mono ?_
  rintro e w4 ⟨rfl, h⟩
  have HL4 := Lib.hid (show Lg w w4 [(R1, #[.int .i64 0, .int .i64 0, .int .i64 0, .slice none 0 0], 70)] [] from HL3.out.kept h)
  clear h
  go_wp2_with fail
  refine (l08Plain_any 40 3 _).mono ?_
  rintro e w5 ⟨rfl, h⟩
  have HL5 := Lib.hid (show Lg w w5 [(R1, #[.int .i64 0, .int .i64 0, .int .i64 0, .slice none 0 0], 70)] [] from HL4.out.kept h)
  clear h
  obtain ⟨L, eL⟩ : ∃ x, w5.heap.size = x := ⟨_, rfl⟩
  obtain ⟨U, eU⟩ : ∃ U, w5.alloc (.cells #[.int .i64 0, .int .i64 8, .bool false, .int .i64 8, .int .i64 16, .bool false, .int .i64 24, .int .i64 16, .bool false, .int .i64 40, .int .i64 3, .bool false] 77) = U := ⟨_, rfl⟩
  obtain ⟨H, eH⟩ : ∃ x, U.heap.size = x := ⟨_, rfl⟩
  have hbU : Below w5.heap.size w5 U := by rw [← eU]; exact (Below.refl _ _).alloc (Nat.le_refl _) _
  have hnU : RsNew fdL 3 77 L H U (some ⟨L, 0, none⟩) [⟨0, 8, false⟩, ⟨8, 16, false⟩, ⟨24, 16, false⟩, ⟨40, 3, false⟩] := .inr ⟨L, 0, _, rfl, Nat.le_refl _, by rw [← eL, ← eH, ← eU]; simp, by rw [← eL, ← eU]; exact heap_alloc_new _ _, by decide, fun i y hy j v hv => by
      have := flat_at fdL 3 fdL_len [⟨0, 8, false⟩, ⟨8, 16, false⟩, ⟨24, 16, false⟩, ⟨40, 3, false⟩] i y hy j v hv
      simpa [fdL] using this⟩
  have qL_R1 : R1 < L := Nat.lt_of_lt_of_eq (HL5.out.lt (.head _)) eL
  have HL6 := Lib.hid (show Lg w U [(R1, #[.int .i64 0, .int .i64 0, .int .i64 0, .slice none 0 0], 70)] [(L, H, fun W => RsNew fdL 3 77 L H W (some ⟨L, 0, none⟩) [⟨0, 8, false⟩, ⟨8, 16, false⟩, ⟨24, 16, false⟩, ⟨40, 3, false⟩])] from HL5.out.made eL eH hbU hnU.solid)
  clear hbU hnU
  go_wp2_with (first
    | (rw [eU, eL]; refine wpList_put_at rfl 70 (.tmp 2) (.tmp 56) rfl rfl (R1) 0 rfl (.agg #[.int .i64 130306, .int .i64 8, .int .i64 2, .slice (some ⟨L, 0, none⟩) 4 4]) rfl #[.int .i64 130306, .int .i64 8, .int .i64 2, .slice (some ⟨L, 0, none⟩) 4 4] rfl 70 #[.int .i64 0, .int .i64 0, .int .i64 0, .slice none 0 0] #[.int .i64 130306, .int .i64 8, .int .i64 2, .slice (some ⟨L, 0, none⟩) 4 4] (HL6.out.get (.head _)) (by kernel_rfl) (by kernel_rfl) (by kernel_rfl) (by kernel_rfl) ?_; intro w7 g7 o7; have HL7 := Lib.hid (show Lg w w7 [(R1, #[.int .i64 130306, .int .i64 8, .int .i64 2, .slice (some ⟨L, 0, none⟩) 4 4], 70)] [(L, H, fun W => RsNew fdL 3 77 L H W (some ⟨L, 0, none⟩) [⟨0, 8, false⟩, ⟨8, 16, false⟩, ⟨24, 16, false⟩, ⟨40, 3, false⟩])] from HL6.out.put 0 rfl g7 o7 (fun _ h => nomatch h) (List.forall_mem_cons.2 ⟨.inr qL_R1, (fun _ h => nomatch h)⟩) rfl); clear g7 o7)
    | (refine wpList_put_at rfl 70 (.tmp 2) (.tmp 56) rfl rfl (R1) 0 rfl (.agg #[.int .i64 130306, .int .i64 8, .int .i64 2, .slice (some ⟨L, 0, none⟩) 4 4]) rfl #[.int .i64 130306, .int .i64 8, .int .i64 2, .slice (some ⟨L, 0, none⟩) 4 4] rfl 70 #[.int .i64 0, .int .i64 0, .int .i64 0, .slice none 0 0] #[.int .i64 130306, .int .i64 8, .int .i64 2, .slice (some ⟨L, 0, none⟩) 4 4] (HL6.out.get (.head _)) (by kernel_rfl) (by kernel_rfl) (by kernel_rfl) (by kernel_rfl) ?_; intro w7 g7 o7; have HL7 := Lib.hid (show Lg w w7 [(R1, #[.int .i64 130306, .int .i64 8, .int .i64 2, .slice (some ⟨L, 0, none⟩) 4 4], 70)] [(L, H, fun W => RsNew fdL 3 77 L H W (some ⟨L, 0, none⟩) [⟨0, 8, false⟩, ⟨8, 16, false⟩, ⟨24, 16, false⟩, ⟨40, 3, false⟩])] from HL6.out.put 0 rfl g7 o7 (fun _ h => nomatch h) (List.forall_mem_cons.2 ⟨.inr qL_R1, (fun _ h => nomatch h)⟩) rfl); clear g7 o7))
  exact bodyPost_ret (results_cell_row (p := 2) (ty := 70) (by kernel_rfl) _ _ (R1) 70 _ (0, 0) _ rfl (HL7.out.get (.head _)) Try.underlying70 rfl (by kernel_rfl)) rfl ⟨_, rfl, ((HL7.out.at (.head _)).wide (HL7.out.lo (.head _)) (HL7.out.hi (.head _)).2), HL7.out.below⟩
set_option maxRecDepth 100000 in
set_option maxHeartbeats 4000000 in
theorem specDefOf_no (p : Int) (w : World) (h : ixD p = 6) : Calls Try.prog 48 #[.int .i64 p] w (DefOut p w) := by
  unfold DefOut
  have hd : defD p = ⟨0, 0, 0, []⟩ := by unfold defD; rw [h]; rfl
  rw [hd]
  have n0 : (p == 127250) = false := by
    have : p ≠ 127250 := fun e => by rw [e] at h; exact absurd h (by decide)
    simpa using this
  have n1 : (p == 127488) = false := by
    have : p ≠ 127488 := fun e => by rw [e] at h; exact absurd h (by decide)
    simpa using this
  have n2 : (p == 128267) = false := by
    have : p ≠ 128267 := fun e => by rw [e] at h; exact absurd h (by decide)
    simpa using this
  have n3 : (p == 128275) = false := by
    have : p ≠ 128275 := fun e => by rw [e] at h; exact absurd h (by decide)
    simpa using this
  have n4 : (p == 129025) = false := by
    have : p ≠ 129025 := fun e => by rw [e] at h; exact absurd h (by decide)
    simpa using this
  have n5 : (p == 130306) = false := by
    have : p ≠ 130306 := fun e => by rw [e] at h; exact absurd h (by decide)
    simpa using this
  clear hd h
  go_enter Try.func48, Try.ntmps48
  go_wp2
  exact bodyPost_ret (v := .agg #[.int .i64 0, .int .i64 0, .int .i64 0, .slice none 0 0]) (by simp [results, Try.results48, go_sem]) rfl ⟨none, rfl, .inl rfl, (Below.refl _ _).alloc (Nat.le_refl _) _⟩
theorem specDefOf_any (p : Int) (w : World) : Calls Try.prog 48 #[.int .i64 p] w (DefOut p w) := by
  by_cases h0 : p = 127250
  · subst h0; exact specDefOf_0 w
  by_cases h1 : p = 127488
  · subst h1; exact specDefOf_1 w
  by_cases h2 : p = 128267
  · subst h2; exact specDefOf_2 w
  by_cases h3 : p = 128275
  · subst h3; exact specDefOf_3 w
  by_cases h4 : p = 129025
  · subst h4; exact specDefOf_4 w
  by_cases h5 : p = 130306
  · subst h5; exact specDefOf_5 w
  exact specDefOf_no p w (by unfold ixD; rw [if_neg h0, if_neg h1, if_neg h2, if_neg h3, if_neg h4, if_neg h5])
end Go.Proofs.Ytanijfmfjabmfaa
/- slices.Repeat of one byte, so many times; a text filled up with bytes 255 from none. Nothing that was there is written. -/
namespace Go.Proofs.Ytanijfmfjabmfaa
open Go.RowKit
set_option linter.unusedVariables false

/-- The first m of N cells hold it. -/
def FillN (N : Nat) (v : Value) (m : Nat) (c : List Value) : Prop := c.length = N ∧ c.take m = List.replicate m v
theorem FillN.step {N : Nat} {v : Value} {m j : Nat} {c : List Value} (h : FillN N v m c) (hn : m + j ≤ N) : FillN N v (m + j) (splice c m (List.replicate j v)) := by
  refine ⟨by rw [length_splice _ _ _ (by rw [List.length_replicate, h.1]; exact hn)]; exact h.1, ?_⟩
  unfold splice
  rw [h.2, ← List.append_assoc, List.take_append_of_le_length (by simp)]
  rw [List.replicate_append_replicate, List.take_of_length_le (by simp)]
theorem FillN.first {N : Nat} {v : Value} {c : List Value} (hN : 1 ≤ N) (h : c.length = N) : FillN N v 1 (splice c 0 [v]) :=
  ⟨by rw [length_splice _ _ _ (by rw [h]; show 0 + 1 ≤ N; omega)]; exact h, rfl⟩
theorem FillN.all {N : Nat} {v : Value} {c : List Value} (h : FillN N v N c) : c = List.replicate N v := by
  have h2 := h.2
  rwa [List.take_of_length_le (by rw [h.1]; exact Nat.le_refl _)] at h2
theorem FillN.cells {N : Nat} {v : Value} {m : Nat} {c : List Value} (h : FillN N v m c) {w : World} {g : Nat} {t : TypeId} (hg : w.heap[g]? = some (.cells c.toArray t (0, 0))) {j : Nat} (hj : j ≤ m) :
    ∀ i u, (List.replicate j v)[i]? = some u → w.cell? ((⟨g, 0, none⟩ : Addr).add i) = some u := by
  intro i u hi
  have hij : i < j := by
    have := (List.getElem?_eq_some_iff.1 hi).1
    simpa using this
  have e : (⟨g, 0, none⟩ : Addr).add i = ⟨g, i, none⟩ := by unfold Addr.add; split <;> simp_all
  rw [e, cell_of_row w g i c.toArray t (0, 0) hg]
  have h2 : (c.take m)[i]? = (List.replicate m v)[i]? := by rw [h.2]
  rw [List.getElem?_take, if_pos (by omega)] at h2
  rw [List.getElem?_replicate, if_pos (by omega)] at h2
  rw [List.getElem?_replicate, if_pos hij] at hi
  rw [← hi, ← h2]
  simp
theorem ownN {w : World} {base : Nat} {e : TypeId} {g n : Nat} {xs : List Value} (h : w.ownsRow base e 1 (.slice (some ⟨g, 0, none⟩) n n) n xs) : ∃ c : List Value, w.heap[g]? = some (.cells c.toArray e (0, 0)) ∧ c.length = n := by
  rcases h.2 with ⟨h', _⟩ | ⟨g', cap', cur, h', _, hg, _, _, hc, _⟩
  · simp at h'
  · simp only [Value.slice.injEq, Option.some.injEq, Addr.mk.injEq, and_true, true_and] at h'
    obtain ⟨rfl, rfl⟩ := h'
    exact ⟨cur.toList, hg, by simpa using hc⟩
set_option maxRecDepth 100000 in
set_option maxHeartbeats 2000000 in
theorem mul14_any (w : World) :
    Calls Try.prog 171 #[.int .u64 1, .int .u64 14] w fun e w' => e = .returned (.tuple #[.int .u64 0, .int .u64 14]) ∧ w = w' := by
  go_enter Try.func171, Try.ntmps171
  go_wp2
  go_ret2
  exact ⟨rfl, rfl⟩
theorem mulN_any (N : Nat) (hN : N = 8 ∨ N = 14) (w : World) :
    Calls Try.prog 171 #[.int .u64 1, .int .u64 (N : Int)] w fun e w' => e = .returned (.tuple #[.int .u64 0, .int .u64 (N : Int)]) ∧ w = w' := by
  rcases hN with rfl | rfl
  · exact mul18_any w
  · exact mul14_any w
set_option maxRecDepth 100000 in
set_option maxHeartbeats 4000000 in
theorem repeatN_any (N : Nat) (hN : N = 8 ∨ N = 14) (b : Nat) (w : World) (x : Int) (h : w.cell? ⟨b, 0, none⟩ = some (.int .u8 x)) (hlt : b < w.heap.size) :
    Calls Try.prog 119 #[.slice (some ⟨b, 0, none⟩) 1 1, .int .i64 (N : Int)] w fun e w' => ∃ G, e = .returned (.slice (some ⟨G, 0, none⟩) N N) ∧ w.heap.size ≤ G ∧ w'.heap[G]? = some (.cells (List.replicate N (Value.int .u8 x)).toArray 5 (0, 0)) ∧ Below w.heap.size w w' := by
  obtain ⟨i0, hi, hz0, hz1, hz2⟩ := info_parts Repeat.info8
  have HC := Lib.hid h
  have hN1 : 1 ≤ N ∧ N ≤ 14 := by omega
  have w1_ : IntKind.u64.wrap (N : Int) = (N : Int) := by rcases hN with rfl | rfl <;> rfl
  have w2_ : IntKind.i64.wrap (N : Int) = (N : Int) := by rcases hN with rfl | rfl <;> rfl
  have HMh := fun w => Lib.hid (mulN_any N hN w)
  have n1 : decide ((N : Int) < 0) = false := decide_eq_false (by omega)
  have n2 : decide ((9223372036854775807 : Int) < (N : Int)) = false := decide_eq_false (by omega)
  clear h hN
  go_enter Try.func119, Try.ntmps119
  go_wp2_with fail
  refine (HMh _).out.mono ?_
  rintro e w' ⟨rfl, rfl⟩
  go_wp2_with (first
    | (at_make; refine wpList_make_full _ rfl (.tmp 29) (.tmp 29) 22 rfl w.heap.size 5 i0 (.int .u8 0) 1 Try.underlying22 hi hz0 hz1 .i64 .i64 (N : Int) (N : Int) N (by rfl) (by rfl) (by omega) (by omega) (by rw [hz2]; omega) (by unfold maxLen; omega) (Nat.le_refl _) ?_; intro w1 hown hgrow; obtain ⟨cur, hcg, hcl⟩ := ownN hown; have HG1 := Lib.hid hcg; have HL := Lib.hid hcl; have HB := Lib.hid ((Below.refl w.heap.size w).grown hgrow (Nat.le_refl _) (fun _ h => by cases h)); have HC1 := Lib.hid ((HB.out.cell (p := ⟨b, 0, none⟩) hlt).trans HC.out); clear hown hgrow hcg hcl)
    | (refine wpList_copy_h rfl (.tmp 31) (.tmp 32) 22 22 rfl 5 Try.underlying22 Repeat.one8 (some ⟨w.heap.size, 0, none⟩) (some ⟨b, 0, none⟩) N N 1 1 rfl rfl w.heap.size 0 cur 5 HG1.out [.int .u8 x] (by show 1 = min 1 N; omega) (fun _ => ⟨rfl, ⟨b, 0, none⟩, rfl, one_cells HC1.out⟩) (by rw [HL.out]; show 0 + 1 ≤ N; omega) (by simp [Value.oneCell']) ?_; intro w2 hg ho; have HG2 := Lib.hid hg; have HO2 := Lib.hid ho; have HE2 := Lib.hid (FillN.first (v := .int .u8 x) hN1.1 HL.out); clear hg ho))
  have h1 : w.heap.size < w1.heap.size := (Array.getElem?_eq_some_iff.1 HG1.out).1
  go_loopw [8] (fun n wr => ∃ (m : Nat) (c : List Value), n = .int .i64 (m : Int) ∧ 1 ≤ m ∧ m ≤ N ∧ FillN N (.int .u8 x) m c ∧ wr.heap[w.heap.size]? = some (.cells c.toArray 5 (0, 0)) ∧ Below w.heap.size w wr) (fun n _ => N - (intOf n).toNat)
  case atStart => exact ⟨1, _, rfl, by omega, by omega, HE2.out, HG2.out, HO2.out.below HB.out (Nat.le_refl _) (Nat.le_of_lt h1)⟩
  case round =>
    obtain ⟨m, c, rfl, hm1, hmN, hf, hg, hb⟩ := hrel
    have HF := Lib.hid hf
    have HG := Lib.hid hg
    have lG : w.heap.size < wr.heap.size := (Array.getElem?_eq_some_iff.1 hg).1
    clear hf hg
    by_cases hlt2 : m < N
    · have q1 : decide ((m : Int) < (N : Int)) = true := decide_eq_true (by omega)
      have q2 : (0 : Int) ≤ (m : Int) := by omega
      have q3 : (m : Int) ≤ (N : Int) := by omega
      have q4 : ¬ N = m := by omega
      obtain ⟨j, hj⟩ : ∃ j, Nat.min m (N - m) = j := ⟨_, rfl⟩
      have hj1 : 1 ≤ j ∧ j ≤ m ∧ m + j ≤ N := by
        have : min m (N - m) = j := hj
        omega
      have w3_ : IntKind.i64.wrap ((m : Int) + (j : Int)) = ((m + j : Nat) : Int) := by rw [IntWalk.i64_in _ (by omega)]; omega
      go_wp2_with fail
      go_region_law (refine step_copy_h rfl (.tmp 41) (.tmp 44) 22 22 rfl 5 Try.underlying22 Repeat.one8 (some ⟨w.heap.size, m, none⟩) (some ⟨w.heap.size, 0, none⟩) (N - m) (N - m) m N (by simp [Act.eval, Act.put]) (by simp [Act.eval, Act.put]) w.heap.size m _ 5 HG.out (List.replicate j (Value.int .u8 x)) (by rw [List.length_replicate]; exact hj.symm) (fun _ => ⟨rfl, ⟨w.heap.size, 0, none⟩, rfl, HF.out.cells HG.out hj1.2.1⟩) (by rw [HF.out.1, List.length_replicate]; exact hj1.2.2) (by simp [Value.oneCell']) ?_; intro w3 hg ho; have HG3 := Lib.hid hg; have HO3 := Lib.hid ho; have HE3 := Lib.hid (HF.out.step hj1.2.2); clear hg ho)
      go_wp2_with fail
      simp only [Act.put, List.getElem_toArray, List.getElem_cons_succ, List.getElem_cons_zero, List.setIfInBounds_toArray, List.set_cons_succ, List.set_cons_zero]
      go_roundw
      case rel => exact ⟨m + j, splice c m (List.replicate j (.int .u8 x)), by first | rfl | go_num, by omega, by omega, HE3.out, HG3.out, HO3.out.undrew.below hb (Nat.le_refl _) (Nat.le_of_lt lG)⟩
      case measure => simp [intOf]; omega
    · obtain rfl : m = N := by omega
      have q1 : decide ((m : Int) < (m : Int)) = false := decide_eq_false (by omega)
      go_wp2_with fail
      go_ret
      refine ⟨_, rfl, Nat.le_refl _, ?_, hb⟩
      rw [← HF.out.all]
      exact HG.out
/-- Bytes 255 alone. -/
def fullL (N : Nat) : List UInt8 := List.replicate N 255
theorem fullL_cells (N : Nat) : bcells (fullL N) = List.replicate N (Value.int .u8 255) := by
  unfold bcells fullL
  rw [List.map_replicate]
  rfl
set_option maxRecDepth 100000 in
set_option maxHeartbeats 4000000 in
theorem l06FillE_any (N : Nat) (hN : N ≤ 100) (w : World) :
    Calls Try.prog 103 #[.string ByteArray.empty, .int .i64 (N : Int)] w fun e w' => e = .returned (.string ⟨(fullL N).toArray⟩) ∧ Below w.heap.size w w' := by
  obtain ⟨i0, hi, hz0, hz1, hz2⟩ := info_parts Repeat.info8
  have HI := Lib.hid hi
  clear hi
  go_enter Try.func103, Try.ntmps103
  go_wp2_with (refine wpList_bytes_buf rfl (.tmp 6) 9 22 5 rfl Try.underlying9 Try.underlying22 Try.underlying5 ByteArray.empty rfl ?_; intro v w1 hv hb; have HV := Lib.hid hv; have HB := Lib.hid hb; clear hv hb)
  go_loopw [5] (fun v wr => ∃ (k : Nat) (V : Value), V = v ∧ k ≤ N ∧ BufB wr w.heap.size V (fullL k) ∧ Below w.heap.size w wr) (fun v _ => match v with | .slice _ n _ => N - n | _ => 0)
  case atStart => exact ⟨0, _, rfl, by omega, HV.out, HB.out⟩
  case round =>
    obtain ⟨k, V, rfl, hk, hv, hb⟩ := hrel
    have HVk := Lib.hid hv
    obtain ⟨g, cap, rfl, hg⟩ : ∃ g cap, V = .slice (some ⟨g, 0, none⟩) k cap ∧ True := by
      obtain ⟨g, cap, h0, _⟩ := hv
      exact ⟨g, cap, by rw [h0]; simp [fullL], trivial⟩
    clear hv hg
    by_cases hlt : k < N
    · have hd : decide ((k : Int) < (N : Int)) = true := decide_eq_true (by omega)
      have hfl : (fullL k).length = k := by simp [fullL]
      go_wp2_with (at_builtin; refine wpList_append_buf rfl (.tmp 12) (.tmp 13) 22 rfl 5 i0 Try.underlying22 HI.out hz0 hz1 hz2 w.heap.size _ _ rfl (HVk.out.kept ((Below.refl _ _).alloc (Nat.le_refl _) _)) 255 ⟨wr.heap.size, 0, none⟩ 1 rfl (cell_new1 _ _ _) (by rw [hfl]; omega) (by have := hb.size; simp; omega) ?_; intro v' w2 hv2 ho2; have HV2 := Lib.hid hv2; have HO2 := Lib.hid ho2; clear hv2 ho2)
      go_roundw
      case rel => exact ⟨k + 1, _, rfl, by omega, by have h := HV2.out; unfold fullL at *; rw [List.replicate_succ']; exact h, HO2.out.below ((hb.alloc hb.size _)) (Nat.le_refl _) (by have := hb.size; simp; omega)⟩
      case measure =>
        obtain ⟨g', cap', h0, _⟩ := HV2.out
        subst h0
        simp [fullL]
        omega
    · obtain rfl : k = N := by omega
      have hd : decide ((k : Int) < (k : Int)) = false := decide_eq_false (by omega)
      have hcv := HVk.out.conv (P := Try.prog) 22 9 5 Try.underlying22 Try.underlying5 Try.underlying9
      go_wp2_with fail
      go_ret
      exact ⟨rfl, hb⟩
end Go.Proofs.Ytanijfmfjabmfaa
/- Whether Values are right for a group: the program's and the model's. Nothing that was there is written. -/
namespace Go.Proofs.Ytanijfmfjabmfaa
open Go.RowKit
set_option linter.unusedVariables false

/-- The i-th Value is right for the i-th Field. -/
def vrAt (F : List Fd) (l : List Vl) (i : Nat) : Bool := valB (fdAt F i).a (fdAt F i).w (fdAt F i).g (vlAt l i).k (vlAt l i).v
def vrF (there : Bool) (F : List Fd) (l : List Vl) : Bool := there && (decide (l.length = F.length) && (List.range F.length).all (vrAt F l))
/-- The Values are right for that group. -/
def vrB (p : Int) (l : List Vl) : Bool := vrF (decide (ixD p < 6)) (defD p).fs l
theorem vrF_len {h : Bool} {F : List Fd} {l : List Vl} (hn : ¬ l.length = F.length) : vrF h F l = false := by simp [vrF, hn]
theorem vrF_no {h : Bool} {F : List Fd} {l : List Vl} {i : Nat} (hi : i < F.length) (hv : vrAt F l i = false) : vrF h F l = false := by
  unfold vrF
  rw [Bool.and_eq_false_iff, Bool.and_eq_false_iff]
  right; right
  rw [List.all_eq_false]
  exact ⟨i, by simpa using hi, by rw [hv]; simp⟩
theorem vrF_yes {F : List Fd} {l : List Vl} (hn : l.length = F.length) (hv : ∀ i, i < F.length → vrAt F l i = true) : vrF true F l = true := by
  unfold vrF
  rw [Bool.true_and, decide_eq_true hn, Bool.true_and, List.all_eq_true]
  exact fun i hi => hv i (by simpa using hi)
theorem vrF_of {h : Bool} {F : List Fd} {l : List Vl} (hv : vrF h F l = true) : h = true ∧ l.length = F.length ∧ ∀ i, i < F.length → vrAt F l i = true := by
  unfold vrF at hv
  rw [Bool.and_eq_true, Bool.and_eq_true, List.all_eq_true] at hv
  exact ⟨hv.1, of_decide_eq_true hv.2.1, fun i hi => hv.2.2 i (by simpa using hi)⟩
theorem vr_next {F : List Fd} {l : List Vl} {k : Nat} (h : ∀ i, i < k → vrAt F l i = true) (hk : vrAt F l k = true) : ∀ i, i < k + 1 → vrAt F l i = true := by
  intro i hi
  rcases Nat.lt_or_ge i k with h' | h'
  · exact h i h'
  · obtain rfl : i = k := by omega
    exact hk
theorem defD_s (p : Int) : (ixD p < 6 → (defD p).s = 8 ∨ (defD p).s = 14) ∧ (¬ ixD p < 6 → (defD p).s = 0 ∧ (defD p).fs = []) := by
  have h := ixD_le p
  unfold defD
  generalize ixD p = i at *
  rcases i with _ | _ | _ | _ | _ | _ | _ | i
  all_goals first | exact ⟨fun _ => .inl rfl, fun h => absurd (by decide) h⟩ | exact ⟨fun _ => .inr rfl, fun h => absurd (by decide) h⟩ | exact ⟨fun h => absurd h (by decide), fun _ => ⟨rfl, rfl⟩⟩ | omega
/-- Each Field of a group is right, and in its bytes. -/
theorem defD_in (p : Int) {i : Nat} (hi : i < (defD p).fs.length) : ∃ a w : Nat, (fdAt (defD p).fs i).a = a ∧ (fdAt (defD p).fs i).w = w ∧ a ≤ 1800 ∧ 1 ≤ w ∧ w ≤ 32 ∧ ((a + w : Nat) : Int) ≤ 8 * (defD p).s := by
  have h := ixD_le p
  have h5 := defD_len p
  unfold defD at *
  generalize ixD p = j at *
  rcases j with _ | _ | _ | _ | _ | _ | _ | j
  all_goals first | omega | skip
  all_goals rcases i with _ | _ | _ | _ | _ | i
  all_goals first | exact ⟨_, _, rfl, rfl, by decide, by decide, by decide, by decide⟩ | exact absurd hi (by decide) | omega
theorem hasB_lit {s : ByteArray} {A B : Nat} (h1 : A ≤ 1800) (h2 : 1 ≤ B) (h3 : B ≤ 32) (h4 : A + B ≤ 8 * s.size) : hasB s (A : Int) (B : Int) = true := by
  unfold hasB fieldB inB
  simp only [Bool.and_eq_true, decide_eq_true_eq]
  omega
theorem rowAt0 {W0 W : World} {g : Nat} {row : List Value} {t : TypeId} (hg : W0.heap[g]? = some (.cells row.toArray t (0, 0))) (hW : Below W0.heap.size W0 W) : ∀ (j : Nat) v, row[j]? = some v → W.cell? ⟨g, 0 + j, none⟩ = some v :=
  fun j v hv => rowCells hg hW (0 + j) v (by rw [Nat.zero_add]; simpa using hv)
set_option maxRecDepth 100000 in
set_option maxHeartbeats 8000000 in
theorem implValuesRight_any (p : Int) (a2 : Option Addr) (c2 : Nat) (l : List Vl) (w : World) (hl : RsIn vlL 2 w a2 l) (hlen : l.length ≤ maxLen) :
    Calls Try.prog 51 #[.int .i64 p, .slice a2 l.length c2] w fun e w' => e = .returned (.bool (vrB p l)) ∧ Below w.heap.size w w' := by
  unfold maxLen at hlen
  have HRow := fun B G W h => Lib.hid (rowOf_d B G p W h)
  have HN := Lib.hid (fun B G W lo hi h1 h2 h3 => @flds_new B G W lo hi h1 h2 h3 p)
  have hF5 := defD_len p
  unfold vrB
  generalize defD p = d at *
  obtain ⟨P, S, R, F⟩ := d
  dsimp only at *
  obtain ⟨V, hV⟩ : ∃ V, vrF (decide (ixD p < 6)) F l = V := ⟨_, rfl⟩
  have hVn := fun hn => hV.symm.trans (@vrF_len (decide (ixD p < 6)) F l hn)
  have hVi := fun i hi hv => hV.symm.trans (@vrF_no (decide (ixD p < 6)) F l i hi hv)
  have hVy : decide (ixD p < 6) = true → l.length = F.length → (∀ i, i < F.length → vrAt F l i = true) → V = true := fun h1 h2 h3 => hV.symm.trans (by rw [h1]; exact vrF_yes h2 h3)
  have hV0 : decide (ixD p < 6) = false → V = false := fun h1 => hV.symm.trans (by rw [h1]; rfl)
  rw [hV]
  clear hV
  have HLv := Lib.hid hl
  clear hl
  obtain ⟨N, hN⟩ : ∃ N, F.length = N := ⟨_, rfl⟩
  obtain ⟨M, hM⟩ : ∃ M, l.length = M := ⟨_, rfl⟩
  have HNl := Lib.hid hN
  have HMl := Lib.hid hM
  rw [hN] at HRow hF5 hVn hVi hVy
  rw [hM] at hlen hVn hVy ⊢
  generalize decide (ixD p < 6) = there at *
  have HV0 := Lib.hid hV0
  have HVn := Lib.hid hVn
  have HVi := Lib.hid hVi
  have HVy := Lib.hid hVy
  clear hN hM hV0 hVn hVi hVy
  go_enter Try.func51, Try.ntmps51
  go_wp2_with fail
  refine (defs_any _).mono ?_
  rintro e w1 ⟨G, rfl, hT, h⟩
  obtain ⟨L1, e1⟩ : ∃ x, w.heap.size = x := ⟨_, rfl⟩
  obtain ⟨H1, f1⟩ : ∃ x, w1.heap.size = x := ⟨_, rfl⟩
  have qH1_L1 : L1 ≤ H1 := (by rw [← e1, ← f1]; exact h.size)
  have HL1 := Lib.hid (show Lg w w1 [] [(L1, H1, fun W => RsNew fdL 3 77 L1 H1 W (aD L1 p) F)] from (Lg.first w).made e1 f1 h (by rw [← e1, ← f1]; exact (HN.out _ _ _ _ _ hT (Nat.le_refl _) hT.hi).solid))
  have HT1 := Lib.hid (show TabAt L1 G w1 from by rw [← e1]; exact hT)
  clear h hT e1 f1
  go_wp2_with fail
  refine ((HRow _ _ _ HT1.out).out).mono ?_
  rintro e w2 ⟨rfl, h⟩
  have HL2 := Lib.hid (show Lg w w2 [] [(L1, H1, fun W => RsNew fdL 3 77 L1 H1 W (aD L1 p) F)] from HL1.out.kept h)
  clear h
  rcases there with _ | _
  · have hv := HV0.out rfl
    go_wp2_with (first
      | (refine wpList_alloc_h rfl 70 rfl (.agg #[.int .i64 0, .int .i64 0, .int .i64 0, .slice none 0 0]) (by kernel_rfl) #[.int .i64 0, .int .i64 0, .int .i64 0, .slice none 0 0] rfl ?_; intro w3 R3 e3 g3 b3; have qR3_H1 : H1 ≤ R3 := Nat.le_trans (HL2.out.hi (.head _)).2 (Nat.le_of_eq e3); have HL3 := Lib.hid (show Lg w w3 [(R3, #[.int .i64 0, .int .i64 0, .int .i64 0, .slice none 0 0], 70)] [(L1, H1, fun W => RsNew fdL 3 77 L1 H1 W (aD L1 p) F)] from HL2.out.box e3 g3 b3); clear g3 b3 e3)
      | (refine wpList_put_at rfl 70 (.tmp 5) (.tmp 13) rfl rfl (R3) 0 rfl (.agg #[.int .i64 P, .int .i64 S, .int .i64 R, .slice (aD L1 p) N N]) rfl #[.int .i64 P, .int .i64 S, .int .i64 R, .slice (aD L1 p) N N] rfl 70 #[.int .i64 0, .int .i64 0, .int .i64 0, .slice none 0 0] #[.int .i64 P, .int .i64 S, .int .i64 R, .slice (aD L1 p) N N] (HL3.out.get (.head _)) (by kernel_rfl) (by kernel_rfl) (by kernel_rfl) (by kernel_rfl) ?_; intro w4 g4 o4; have HL4 := Lib.hid (show Lg w w4 [(R3, #[.int .i64 P, .int .i64 S, .int .i64 R, .slice (aD L1 p) N N], 70)] [(L1, H1, fun W => RsNew fdL 3 77 L1 H1 W (aD L1 p) F)] from HL3.out.put 0 rfl g4 o4 (fun _ h => nomatch h) (List.forall_mem_cons.2 ⟨.inl qR3_H1, (fun _ h => nomatch h)⟩) rfl); clear g4 o4))
    go_ret
    exact ⟨by first | rfl | (rw [hv]; rfl), HL4.out.below⟩
  by_cases hMN : M = N
  · obtain rfl : N = M := hMN.symm
    have e1 : ((N : Int) != (N : Int)) = false := by simp
    go_wp2_with (first
      | (refine wpList_alloc_h rfl 70 rfl (.agg #[.int .i64 0, .int .i64 0, .int .i64 0, .slice none 0 0]) (by kernel_rfl) #[.int .i64 0, .int .i64 0, .int .i64 0, .slice none 0 0] rfl ?_; intro w3 R3 e3 g3 b3; have qR3_H1 : H1 ≤ R3 := Nat.le_trans (HL2.out.hi (.head _)).2 (Nat.le_of_eq e3); have HL3 := Lib.hid (show Lg w w3 [(R3, #[.int .i64 0, .int .i64 0, .int .i64 0, .slice none 0 0], 70)] [(L1, H1, fun W => RsNew fdL 3 77 L1 H1 W (aD L1 p) F)] from HL2.out.box e3 g3 b3); clear g3 b3 e3)
      | (refine wpList_put_at rfl 70 (.tmp 5) (.tmp 13) rfl rfl (R3) 0 rfl (.agg #[.int .i64 P, .int .i64 S, .int .i64 R, .slice (aD L1 p) N N]) rfl #[.int .i64 P, .int .i64 S, .int .i64 R, .slice (aD L1 p) N N] rfl 70 #[.int .i64 0, .int .i64 0, .int .i64 0, .slice none 0 0] #[.int .i64 P, .int .i64 S, .int .i64 R, .slice (aD L1 p) N N] (HL3.out.get (.head _)) (by kernel_rfl) (by kernel_rfl) (by kernel_rfl) (by kernel_rfl) ?_; intro w4 g4 o4; have HL4 := Lib.hid (show Lg w w4 [(R3, #[.int .i64 P, .int .i64 S, .int .i64 R, .slice (aD L1 p) N N], 70)] [(L1, H1, fun W => RsNew fdL 3 77 L1 H1 W (aD L1 p) F)] from HL3.out.put 0 rfl g4 o4 (fun _ h => nomatch h) (List.forall_mem_cons.2 ⟨.inl qR3_H1, (fun _ h => nomatch h)⟩) rfl); clear g4 o4)
      | (refine wpList_load_one rfl 68 (.tmp 20) rfl (R3) 3 rfl 70 #[.int .i64 P, .int .i64 S, .int .i64 R, .slice (aD L1 p) N N] (0, 0) (HL4.out.get (.head _)) (.slice (aD L1 p) N N) rfl _ Try.underlying68 rfl (by kernel_rfl) ?_)
      | (refine wpList_load_one rfl 68 (.tmp 25) rfl (R3) 3 rfl 70 #[.int .i64 P, .int .i64 S, .int .i64 R, .slice (aD L1 p) N N] (0, 0) (HL4.out.get (.head _)) (.slice (aD L1 p) N N) rfl _ Try.underlying68 rfl (by kernel_rfl) ?_))
    have HFl := Lib.hid (HL4.out.at (.head _)).ins
    have HBp := Lib.hid HL4.out.below
    have HLq := Lib.hid (HLv.out.kept HBp.out)
    clear HL1 HL2 HL3 HL4 HT1 HLv
    go_loopw [28] (fun i wr => ∃ k : Nat, i = .int .i64 (k : Int) ∧ k ≤ N ∧ (∀ i, i < k → vrAt F l i = true) ∧ Below w4.heap.size w4 wr) (fun i _ => N - (intOf i).toNat)
    case atStart => exact ⟨0, rfl, by omega, fun i hi => absurd hi (by omega), Below.refl _ _⟩
    case round =>
      obtain ⟨k, rfl, hk, hall, hb⟩ := hrel
      have HA := Lib.hid hall
      clear hall
      by_cases hkn : k < N
      · have hi1 : (0 : Int) ≤ (k : Int) := by omega
        have hi2 : (k : Int) < (N : Int) := by omega
        have hkF : k < F.length := by have := HNl.out; omega
        have hkl : k < l.length := by have := HMl.out; omega
        obtain ⟨b, o, ha, hlt, hc⟩ := HFl.out.at (by omega)
        obtain ⟨b2, o2, rfl, hlt2, hc2⟩ := HLq.out.at (by omega)
        rw [ha]
        have lv : b2 < wr.heap.size := Nat.lt_of_lt_of_le hlt2 hb.size
        have HCf := Lib.hid (fun j v hv => (hb.cell (p := ⟨b, _, none⟩) hlt).trans (hc k _ (fdAt_some hkF) j v hv))
        have HCv := Lib.hid (fun j v hv => (hb.cell (p := ⟨b2, _, none⟩) hlt2).trans (hc2 k _ (vlAt_some hkl) j v hv))
        have HNx := Lib.hid (@vr_next F l k HA.out)
        have HNo := Lib.hid (HVi.out k hkn)
        have HVR := fun W => Lib.hid (implValueRight_any (fdAt F k).a (fdAt F k).w (fdAt F k).g (vlAt l k).k (vlAt l k).v W)
        unfold vrAt at HNx HNo
        clear hc hc2
        generalize fdAt F k = x at *
        generalize vlAt l k = y at *
        obtain ⟨fa, fw, fg⟩ := x
        obtain ⟨vk, vn⟩ := y
        unfold fdL at HCf
        unfold vlL at HCv
        unfold fdV vlV at HVR
        dsimp only at *
        generalize valB fa fw fg vk vn = Y at *
        go_wp2_with (first
          | (refine wpList_load_cells rfl 77 (.tmp 31) rfl b (o + k * 3) rfl [.int .i64 fa, .int .i64 fw, .bool fg] HCf.out _ Try.underlying77 rfl (by kernel_rfl) ?_)
          | (refine wpList_alloc_h rfl 77 rfl (.agg #[.int .i64 0, .int .i64 0, .bool false]) (by kernel_rfl) #[.int .i64 0, .int .i64 0, .bool false] rfl ?_; intro w1 qR1 e1 g1 b1; have HL1 := Lib.hid (show Lg wr w1 [(qR1, #[.int .i64 0, .int .i64 0, .bool false], 77)] [] from (Lg.first wr).box e1 g1 b1); clear g1 b1 e1)
          | (refine wpList_put_at rfl 77 (.tmp 8) (.tmp 32) rfl rfl (qR1) 0 rfl (.agg #[.int .i64 fa, .int .i64 fw, .bool fg]) rfl #[.int .i64 fa, .int .i64 fw, .bool fg] rfl 77 #[.int .i64 0, .int .i64 0, .bool false] #[.int .i64 fa, .int .i64 fw, .bool fg] (HL1.out.get (.head _)) (by kernel_rfl) (by kernel_rfl) (by kernel_rfl) (by kernel_rfl) ?_; intro w2 g2 o2; have HL2 := Lib.hid (show Lg wr w2 [(qR1, #[.int .i64 fa, .int .i64 fw, .bool fg], 77)] [] from HL1.out.put 0 rfl g2 o2 (fun _ h => nomatch h) (fun _ h => nomatch h) rfl); clear g2 o2))
        refine wp_region_quiet (C := fun W => Below w2.heap.size w2 W) (by kernel_rfl) (by kernel_rfl) (Below.refl _ _).drew ?_
        dsimp only
        go_big_quiet_want; refine ⟨.agg #[.int .i64 fa, .int .i64 fw, .bool fg], fun W hW => (quietLoadCells 77 (.tmp 8) rfl qR1 0 rfl [.int .i64 fa, .int .i64 fw, .bool fg] (rowAt0 (HL2.out.get (.head _)) hW) _ Try.underlying77 rfl (by kernel_rfl)), ?_⟩; simp only [Act.put, List.setIfInBounds_toArray, List.set_cons_zero, List.set_cons_succ]; go_big_quiet_on
        go_big_quiet_want; go_big_quiet_op; first | go_big_quiet_on | (refine ⟨_, fun _ _ => rfl, ?_⟩; go_big_quiet_on)
        go_big_quiet_want; go_big_quiet_op; first | go_big_quiet_on | (refine ⟨_, fun _ _ => rfl, ?_⟩; go_big_quiet_on)
        go_big_quiet_want; go_big_quiet_op; first | go_big_quiet_on | (refine ⟨_, fun _ _ => rfl, ?_⟩; go_big_quiet_on)
        go_big_quiet_want; refine ⟨.agg #[.int .i64 vk, .int .i64 vn], fun W hW => (quietLoadCells 142 (.tmp 36) rfl b2 (o2 + k * 2) rfl [.int .i64 vk, .int .i64 vn] (grownCells (Nat.lt_of_lt_of_le lv HL2.out.below.size) (fun j v hv => (HL2.out.below.cell (p := ⟨b2, _, none⟩) lv).trans (HCv.out j v hv)) hW) _ Try.underlying142 rfl (by kernel_rfl)), ?_⟩; simp only [Act.put, List.setIfInBounds_toArray, List.set_cons_zero, List.set_cons_succ]; go_big_quiet_on
        go_big_quiet_want; go_big_quiet_op; refine ⟨_, fun W hW => quietCall hW (HVR W).out, ?_⟩; go_big_quiet_on
        go_big_quiet_want; go_big_quiet_op; first | go_big_quiet_on | (refine ⟨_, fun _ _ => rfl, ?_⟩; go_big_quiet_on)
        refine wpQuiet_nil ?_
        intro X hX
        have hbX := hb.trans ((HL2.out.below.trans (hX.mono HL2.out.below.size)).mono hb.size)
        rcases Y with _ | _
        · have hv := HNo.out rfl
          go_wp2_with fail
          go_ret
          exact ⟨by first | rfl | (rw [hv]; rfl), HBp.out.trans (hbX.mono HBp.out.size)⟩
        · have HN2 := Lib.hid (HNx.out rfl)
          go_wp2_with fail
          go_roundw
          case rel => exact ⟨k + 1, by go_num, by omega, HN2.out, hbX⟩
          case measure => simp [intOf]; omega
      · have hv := HVy.out (by trivial) (by trivial) (fun i hi => HA.out i (by omega))
        go_wp2_with fail
        go_ret
        exact ⟨by first | rfl | (rw [hv]; rfl), HBp.out.trans (hb.mono HBp.out.size)⟩
  · have hv := HVn.out hMN
    have e1 : ((M : Int) != (N : Int)) = true := by simp; omega
    go_wp2_with (first
      | (refine wpList_alloc_h rfl 70 rfl (.agg #[.int .i64 0, .int .i64 0, .int .i64 0, .slice none 0 0]) (by kernel_rfl) #[.int .i64 0, .int .i64 0, .int .i64 0, .slice none 0 0] rfl ?_; intro w3 R3 e3 g3 b3; have qR3_H1 : H1 ≤ R3 := Nat.le_trans (HL2.out.hi (.head _)).2 (Nat.le_of_eq e3); have HL3 := Lib.hid (show Lg w w3 [(R3, #[.int .i64 0, .int .i64 0, .int .i64 0, .slice none 0 0], 70)] [(L1, H1, fun W => RsNew fdL 3 77 L1 H1 W (aD L1 p) F)] from HL2.out.box e3 g3 b3); clear g3 b3 e3)
      | (refine wpList_put_at rfl 70 (.tmp 5) (.tmp 13) rfl rfl (R3) 0 rfl (.agg #[.int .i64 P, .int .i64 S, .int .i64 R, .slice (aD L1 p) N N]) rfl #[.int .i64 P, .int .i64 S, .int .i64 R, .slice (aD L1 p) N N] rfl 70 #[.int .i64 0, .int .i64 0, .int .i64 0, .slice none 0 0] #[.int .i64 P, .int .i64 S, .int .i64 R, .slice (aD L1 p) N N] (HL3.out.get (.head _)) (by kernel_rfl) (by kernel_rfl) (by kernel_rfl) (by kernel_rfl) ?_; intro w4 g4 o4; have HL4 := Lib.hid (show Lg w w4 [(R3, #[.int .i64 P, .int .i64 S, .int .i64 R, .slice (aD L1 p) N N], 70)] [(L1, H1, fun W => RsNew fdL 3 77 L1 H1 W (aD L1 p) F)] from HL3.out.put 0 rfl g4 o4 (fun _ h => nomatch h) (List.forall_mem_cons.2 ⟨.inl qR3_H1, (fun _ h => nomatch h)⟩) rfl); clear g4 o4)
      | (refine wpList_load_one rfl 68 (.tmp 20) rfl (R3) 3 rfl 70 #[.int .i64 P, .int .i64 S, .int .i64 R, .slice (aD L1 p) N N] (0, 0) (HL4.out.get (.head _)) (.slice (aD L1 p) N N) rfl _ Try.underlying68 rfl (by kernel_rfl) ?_))
    go_ret
    exact ⟨by first | rfl | (rw [hv]; rfl), HL4.out.below⟩
set_option maxRecDepth 100000 in
set_option maxHeartbeats 8000000 in
theorem specValuesRight_any (p : Int) (a2 : Option Addr) (c2 : Nat) (l : List Vl) (w : World) (hl : RsIn vlL 2 w a2 l) (hlen : l.length ≤ maxLen) :
    Calls Try.prog 52 #[.int .i64 p, .slice a2 l.length c2] w fun e w' => e = .returned (.bool (vrB p l)) ∧ Below w.heap.size w w' := by
  unfold maxLen at hlen
  have HD := fun W => Lib.hid (specDefOf_any p W)
  unfold DefOut at HD
  have hF5 := defD_len p
  have hS := defD_s p
  unfold vrB
  generalize defD p = d at *
  obtain ⟨P, S, R, F⟩ := d
  dsimp only at *
  obtain ⟨V, hV⟩ : ∃ V, vrF (decide (ixD p < 6)) F l = V := ⟨_, rfl⟩
  have hVn := fun hn => hV.symm.trans (@vrF_len (decide (ixD p < 6)) F l hn)
  have hVi := fun i hi hv => hV.symm.trans (@vrF_no (decide (ixD p < 6)) F l i hi hv)
  have hVy : decide (ixD p < 6) = true → l.length = F.length → (∀ i, i < F.length → vrAt F l i = true) → V = true := fun h1 h2 h3 => hV.symm.trans (by rw [h1]; exact vrF_yes h2 h3)
  have hV0 : decide (ixD p < 6) = false → V = false := fun h1 => hV.symm.trans (by rw [h1]; rfl)
  have hSb : (S == 0) = !(decide (ixD p < 6)) := by
    by_cases h : ixD p < 6
    · rw [decide_eq_true h]
      rcases hS.1 h with rfl | rfl <;> rfl
    · rw [decide_eq_false h, (hS.2 h).1]; rfl
  rw [hV]
  clear hV hS
  have HLv := Lib.hid hl
  clear hl
  obtain ⟨N, hN⟩ : ∃ N, F.length = N := ⟨_, rfl⟩
  obtain ⟨M, hM⟩ : ∃ M, l.length = M := ⟨_, rfl⟩
  have HNl := Lib.hid hN
  have HMl := Lib.hid hM
  rw [hN] at HD hF5 hVn hVi hVy
  rw [hM] at hlen hVn hVy ⊢
  generalize decide (ixD p < 6) = there at *
  have HV0 := Lib.hid hV0
  have HVn := Lib.hid hVn
  have HVi := Lib.hid hVi
  have HVy := Lib.hid hVy
  clear hN hM hV0 hVn hVi hVy
  go_enter Try.func52, Try.ntmps52
  go_wp2_with fail
  refine ((HD _).out).mono ?_
  rintro e w1 ⟨a, rfl, hn, h⟩
  obtain ⟨L1, e1⟩ : ∃ x, w.heap.size = x := ⟨_, rfl⟩
  obtain ⟨H1, f1⟩ : ∃ x, w1.heap.size = x := ⟨_, rfl⟩
  have qH1_L1 : L1 ≤ H1 := (by rw [← e1, ← f1]; exact h.size)
  have HL1 := Lib.hid (show Lg w w1 [] [(L1, H1, fun W => RsNew fdL 3 77 L1 H1 W a F)] from (Lg.first w).made e1 f1 h (by rw [← e1, ← f1]; exact hn.solid))
  clear h hn e1 f1
  rcases there with _ | _
  · have hv := HV0.out rfl
    simp only [Bool.not_false] at hSb
    go_wp2_with (first
      | (refine wpList_alloc_h rfl 70 rfl (.agg #[.int .i64 0, .int .i64 0, .int .i64 0, .slice none 0 0]) (by kernel_rfl) #[.int .i64 0, .int .i64 0, .int .i64 0, .slice none 0 0] rfl ?_; intro w2 R2 e2 g2 b2; have qR2_H1 : H1 ≤ R2 := Nat.le_trans (HL1.out.hi (.head _)).2 (Nat.le_of_eq e2); have HL2 := Lib.hid (show Lg w w2 [(R2, #[.int .i64 0, .int .i64 0, .int .i64 0, .slice none 0 0], 70)] [(L1, H1, fun W => RsNew fdL 3 77 L1 H1 W a F)] from HL1.out.box e2 g2 b2); clear g2 b2 e2)
      | (refine wpList_put_at rfl 70 (.tmp 5) (.tmp 8) rfl rfl (R2) 0 rfl (.agg #[.int .i64 P, .int .i64 S, .int .i64 R, .slice a N N]) rfl #[.int .i64 P, .int .i64 S, .int .i64 R, .slice a N N] rfl 70 #[.int .i64 0, .int .i64 0, .int .i64 0, .slice none 0 0] #[.int .i64 P, .int .i64 S, .int .i64 R, .slice a N N] (HL2.out.get (.head _)) (by kernel_rfl) (by kernel_rfl) (by kernel_rfl) (by kernel_rfl) ?_; intro w3 g3 o3; have HL3 := Lib.hid (show Lg w w3 [(R2, #[.int .i64 P, .int .i64 S, .int .i64 R, .slice a N N], 70)] [(L1, H1, fun W => RsNew fdL 3 77 L1 H1 W a F)] from HL2.out.put 0 rfl g3 o3 (fun _ h => nomatch h) (List.forall_mem_cons.2 ⟨.inl qR2_H1, (fun _ h => nomatch h)⟩) rfl); clear g3 o3)
      | (refine wpList_load_one rfl 2 (.tmp 9) rfl (R2) 1 rfl 70 #[.int .i64 P, .int .i64 S, .int .i64 R, .slice a N N] (0, 0) (HL3.out.get (.head _)) (.int .i64 S) rfl _ Try.underlying2 rfl (by kernel_rfl) ?_))
    go_ret
    exact ⟨by first | rfl | (rw [hv]; rfl), HL3.out.below⟩
  simp only [Bool.not_true] at hSb
  by_cases hMN : M = N
  · obtain rfl : N = M := hMN.symm
    have e1 : ((N : Int) != (N : Int)) = false := by simp
    go_wp2_with (first
      | (refine wpList_alloc_h rfl 70 rfl (.agg #[.int .i64 0, .int .i64 0, .int .i64 0, .slice none 0 0]) (by kernel_rfl) #[.int .i64 0, .int .i64 0, .int .i64 0, .slice none 0 0] rfl ?_; intro w2 R2 e2 g2 b2; have qR2_H1 : H1 ≤ R2 := Nat.le_trans (HL1.out.hi (.head _)).2 (Nat.le_of_eq e2); have HL2 := Lib.hid (show Lg w w2 [(R2, #[.int .i64 0, .int .i64 0, .int .i64 0, .slice none 0 0], 70)] [(L1, H1, fun W => RsNew fdL 3 77 L1 H1 W a F)] from HL1.out.box e2 g2 b2); clear g2 b2 e2)
      | (refine wpList_put_at rfl 70 (.tmp 5) (.tmp 8) rfl rfl (R2) 0 rfl (.agg #[.int .i64 P, .int .i64 S, .int .i64 R, .slice a N N]) rfl #[.int .i64 P, .int .i64 S, .int .i64 R, .slice a N N] rfl 70 #[.int .i64 0, .int .i64 0, .int .i64 0, .slice none 0 0] #[.int .i64 P, .int .i64 S, .int .i64 R, .slice a N N] (HL2.out.get (.head _)) (by kernel_rfl) (by kernel_rfl) (by kernel_rfl) (by kernel_rfl) ?_; intro w3 g3 o3; have HL3 := Lib.hid (show Lg w w3 [(R2, #[.int .i64 P, .int .i64 S, .int .i64 R, .slice a N N], 70)] [(L1, H1, fun W => RsNew fdL 3 77 L1 H1 W a F)] from HL2.out.put 0 rfl g3 o3 (fun _ h => nomatch h) (List.forall_mem_cons.2 ⟨.inl qR2_H1, (fun _ h => nomatch h)⟩) rfl); clear g3 o3)
      | (refine wpList_load_one rfl 2 (.tmp 9) rfl (R2) 1 rfl 70 #[.int .i64 P, .int .i64 S, .int .i64 R, .slice a N N] (0, 0) (HL3.out.get (.head _)) (.int .i64 S) rfl _ Try.underlying2 rfl (by kernel_rfl) ?_)
      | (refine wpList_load_one rfl 68 (.tmp 15) rfl (R2) 3 rfl 70 #[.int .i64 P, .int .i64 S, .int .i64 R, .slice a N N] (0, 0) (HL3.out.get (.head _)) (.slice a N N) rfl _ Try.underlying68 rfl (by kernel_rfl) ?_))
    have HFl := Lib.hid (HL3.out.at (.head _)).ins
    have HR5 := Lib.hid (HL3.out.get (.head _))
    have HBp := Lib.hid HL3.out.below
    have HLq := Lib.hid (HLv.out.kept HBp.out)
    clear HL1 HL2 HL3 HLv
    have HR50 := HR5
    clear HR5
    go_loopw [6] (fun i wr => ∃ k : Nat, i = .int .i64 (k : Int) ∧ k ≤ N ∧ (∀ i, i < k → vrAt F l i = true) ∧ Below w3.heap.size w3 wr) (fun i _ => N - (intOf i).toNat)
    case atStart => exact ⟨0, rfl, by omega, fun i hi => absurd hi (by omega), Below.refl _ _⟩
    case round =>
      obtain ⟨k, rfl, hk, hall, hb⟩ := hrel
      have HA := Lib.hid hall
      clear hall
      by_cases hkn : k < N
      · have hi1 : (0 : Int) ≤ (k : Int) := by omega
        have hi2 : (k : Int) < (N : Int) := by omega
        have hkF : k < F.length := by have := HNl.out; omega
        have hkl : k < l.length := by have := HMl.out; omega
        obtain ⟨b, o, rfl, hlt, hc⟩ := HFl.out.at (by omega)
        obtain ⟨b2, o2, rfl, hlt2, hc2⟩ := HLq.out.at (by omega)
        have lv : b2 < wr.heap.size := Nat.lt_of_lt_of_le hlt2 hb.size
        have lf : b < wr.heap.size := Nat.lt_of_lt_of_le hlt hb.size
        have HR5 := Lib.hid ((hb.block _ (Array.getElem?_eq_some_iff.1 HR50.out).1).trans HR50.out)
        have HCf := Lib.hid (fun j v hv => (hb.cell (p := ⟨b, _, none⟩) hlt).trans (hc k _ (fdAt_some hkF) j v hv))
        have HCv := Lib.hid (fun j v hv => (hb.cell (p := ⟨b2, _, none⟩) hlt2).trans (hc2 k _ (vlAt_some hkl) j v hv))
        have HNx := Lib.hid (@vr_next F l k HA.out)
        have HNo := Lib.hid (HVi.out k hkn)
        have HVR := fun W => Lib.hid (specValueRight_any (fdAt F k).a (fdAt F k).w (fdAt F k).g (vlAt l k).k (vlAt l k).v W)
        unfold vrAt at HNx HNo
        clear hc hc2
        generalize fdAt F k = x at *
        generalize vlAt l k = y at *
        obtain ⟨fa, fw, fg⟩ := x
        obtain ⟨vk, vn⟩ := y
        unfold fdL at HCf
        unfold vlL at HCv
        unfold fdV vlV at HVR
        dsimp only at *
        generalize valB fa fw fg vk vn = Y at *
        go_wp2_with fail
        refine wp_region_quiet (C := fun W => Below wr.heap.size wr W) (by kernel_rfl) (by kernel_rfl) (Below.refl _ _).drew ?_
        dsimp only
        go_big_quiet_want; go_big_quiet_op; first | go_big_quiet_on | (refine ⟨_, fun _ _ => rfl, ?_⟩; go_big_quiet_on)
        go_big_quiet_want; refine ⟨.slice (some ⟨b, o, none⟩) N N, fun W hW => (quietLoadOne 68 (.tmp 26) rfl R2 3 rfl _ (rowCells HR5.out hW _ _ rfl) _ Try.underlying68 rfl), ?_⟩; simp only [Act.put, List.setIfInBounds_toArray, List.set_cons_zero, List.set_cons_succ]; go_big_quiet_on
        go_big_quiet_want; go_big_quiet_op; first | go_big_quiet_on | (refine ⟨_, fun _ _ => rfl, ?_⟩; go_big_quiet_on)
        go_big_quiet_want; go_big_quiet_op; first | go_big_quiet_on | (refine ⟨_, fun _ _ => rfl, ?_⟩; go_big_quiet_on)
        go_big_quiet_want; refine ⟨.agg #[.int .i64 fa, .int .i64 fw, .bool fg], fun W hW => (quietLoadCells 77 (.tmp 29) rfl b (o + k * 3) rfl [.int .i64 fa, .int .i64 fw, .bool fg] (grownCells lf HCf.out hW) _ Try.underlying77 rfl (by kernel_rfl)), ?_⟩; simp only [Act.put, List.setIfInBounds_toArray, List.set_cons_zero, List.set_cons_succ]; go_big_quiet_on
        go_big_quiet_want; go_big_quiet_op; first | go_big_quiet_on | (refine ⟨_, fun _ _ => rfl, ?_⟩; go_big_quiet_on)
        go_big_quiet_want; go_big_quiet_op; first | go_big_quiet_on | (refine ⟨_, fun _ _ => rfl, ?_⟩; go_big_quiet_on)
        go_big_quiet_want; go_big_quiet_op; first | go_big_quiet_on | (refine ⟨_, fun _ _ => rfl, ?_⟩; go_big_quiet_on)
        go_big_quiet_want; refine ⟨.agg #[.int .i64 vk, .int .i64 vn], fun W hW => (quietLoadCells 142 (.tmp 33) rfl b2 (o2 + k * 2) rfl [.int .i64 vk, .int .i64 vn] (grownCells lv HCv.out hW) _ Try.underlying142 rfl (by kernel_rfl)), ?_⟩; simp only [Act.put, List.setIfInBounds_toArray, List.set_cons_zero, List.set_cons_succ]; go_big_quiet_on
        go_big_quiet_want; go_big_quiet_op; refine ⟨_, fun W hW => quietCall hW (HVR W).out, ?_⟩; go_big_quiet_on
        go_big_quiet_want; go_big_quiet_op; first | go_big_quiet_on | (refine ⟨_, fun _ _ => rfl, ?_⟩; go_big_quiet_on)
        refine wpQuiet_nil ?_
        intro X hX
        have hbX := hb.trans (hX.mono hb.size)
        rcases Y with _ | _
        · have hv := HNo.out rfl
          go_wp2_with fail
          go_ret
          exact ⟨by first | rfl | (rw [hv]; rfl), HBp.out.trans (hbX.mono HBp.out.size)⟩
        · have HN2 := Lib.hid (HNx.out rfl)
          go_wp2_with fail
          go_roundw
          case rel => exact ⟨k + 1, by go_num, by omega, HN2.out, hbX⟩
          case measure => simp [intOf]; omega
      · have hv := HVy.out (by trivial) (by trivial) (fun i hi => HA.out i (by omega))
        go_wp2_with fail
        go_ret
        exact ⟨by first | rfl | (rw [hv]; rfl), HBp.out.trans (hb.mono HBp.out.size)⟩
  · have hv := HVn.out hMN
    have e1 : ((M : Int) != (N : Int)) = true := by simp; omega
    go_wp2_with (first
      | (refine wpList_alloc_h rfl 70 rfl (.agg #[.int .i64 0, .int .i64 0, .int .i64 0, .slice none 0 0]) (by kernel_rfl) #[.int .i64 0, .int .i64 0, .int .i64 0, .slice none 0 0] rfl ?_; intro w2 R2 e2 g2 b2; have qR2_H1 : H1 ≤ R2 := Nat.le_trans (HL1.out.hi (.head _)).2 (Nat.le_of_eq e2); have HL2 := Lib.hid (show Lg w w2 [(R2, #[.int .i64 0, .int .i64 0, .int .i64 0, .slice none 0 0], 70)] [(L1, H1, fun W => RsNew fdL 3 77 L1 H1 W a F)] from HL1.out.box e2 g2 b2); clear g2 b2 e2)
      | (refine wpList_put_at rfl 70 (.tmp 5) (.tmp 8) rfl rfl (R2) 0 rfl (.agg #[.int .i64 P, .int .i64 S, .int .i64 R, .slice a N N]) rfl #[.int .i64 P, .int .i64 S, .int .i64 R, .slice a N N] rfl 70 #[.int .i64 0, .int .i64 0, .int .i64 0, .slice none 0 0] #[.int .i64 P, .int .i64 S, .int .i64 R, .slice a N N] (HL2.out.get (.head _)) (by kernel_rfl) (by kernel_rfl) (by kernel_rfl) (by kernel_rfl) ?_; intro w3 g3 o3; have HL3 := Lib.hid (show Lg w w3 [(R2, #[.int .i64 P, .int .i64 S, .int .i64 R, .slice a N N], 70)] [(L1, H1, fun W => RsNew fdL 3 77 L1 H1 W a F)] from HL2.out.put 0 rfl g3 o3 (fun _ h => nomatch h) (List.forall_mem_cons.2 ⟨.inl qR2_H1, (fun _ h => nomatch h)⟩) rfl); clear g3 o3)
      | (refine wpList_load_one rfl 2 (.tmp 9) rfl (R2) 1 rfl 70 #[.int .i64 P, .int .i64 S, .int .i64 R, .slice a N N] (0, 0) (HL3.out.get (.head _)) (.int .i64 S) rfl _ Try.underlying2 rfl (by kernel_rfl) ?_)
      | (refine wpList_load_one rfl 68 (.tmp 15) rfl (R2) 3 rfl 70 #[.int .i64 P, .int .i64 S, .int .i64 R, .slice a N N] (0, 0) (HL3.out.get (.head _)) (.slice a N N) rfl _ Try.underlying68 rfl (by kernel_rfl) ?_))
    go_ret
    exact ⟨by first | rfl | (rw [hv]; rfl), HL3.out.below⟩
end Go.Proofs.Ytanijfmfjabmfaa
/- The groups' numbers: the program's and the model's, in memory of the call's own. -/
namespace Go.Proofs.Ytanijfmfjabmfaa
open Go.RowKit
set_option linter.unusedVariables false

/-- The numbers of the table. -/
def pgnL : List Int := [127250, 127488, 128267, 128275, 129025, 130306]
theorem pgnL_take {k : Nat} (h : k < 6) : ncells (pgnL.take (k + 1)) = ncells (pgnL.take k) ++ [.int .i64 (pAt k)] := by
  rcases k with _ | _ | _ | _ | _ | _ | k
  all_goals first | rfl | omega
theorem pgnL_len {k : Nat} (h : k ≤ 6) : (pgnL.take k).length = k := by
  rw [List.length_take]
  show min k 6 = k
  omega
/-- What Pgns answers. -/
def PgnsOut (w : World) (e : Ending) (w' : World) : Prop := ∃ a c, e = .returned (.slice a pgnL.length c) ∧ NumsNew w.heap.size w'.heap.size w' a pgnL ∧ Below w.heap.size w w'
set_option maxRecDepth 100000 in
set_option maxHeartbeats 4000000 in
theorem specPgns_any (w : World) : Calls Try.prog 55 #[] w (PgnsOut w) := by
  unfold PgnsOut
  go_enter Try.func55, Try.ntmps55
  go_wp2
  go_ret
  refine ⟨_, _, rfl, ?_, (Below.refl _ _).alloc (Nat.le_refl _) _⟩
  have hh := heap_alloc_new w (.cells (ncells pgnL).toArray 2)
  refine .inr ⟨w.heap.size, 0, rfl, Nat.le_refl _, by simp, by simp, fun j hj => frozen_of_row _ _ _ _ _ hh, fun i x hx => ?_⟩
  refine (cell_of_row _ w.heap.size _ _ _ (0, 0) hh).trans ?_
  have := ncells_at pgnL i x hx
  simpa using this
set_option maxRecDepth 100000 in
set_option maxHeartbeats 8000000 in
theorem implPgns_any (w : World) : Calls Try.prog 54 #[] w (PgnsOut w) := by
  unfold PgnsOut
  obtain ⟨i0, hi, hz0, hz1, hz2⟩ := info_parts NumsTo.info
  have HI0 := Lib.hid hi
  clear hi
  go_enter Try.func54, Try.ntmps54
  go_wp2_with fail
  refine (defs_any _).mono ?_
  rintro e wd ⟨G, rfl, hT, hb1⟩
  obtain ⟨B, eB⟩ : ∃ B, w.heap.size = B := ⟨_, rfl⟩
  have HT := Lib.hid (show TabAt B G wd from by rw [← eB]; exact hT)
  have HB1 := Lib.hid (show Below B w wd from by rw [← eB]; exact hb1)
  have HBw := Lib.hid eB
  clear hT hb1 eB
  go_wp2_with fail
  go_loopw [1, 6] (fun v i wr => ∃ (k : Nat) (V : Value), i = .int .i64 (k : Int) ∧ V = v ∧ k ≤ 6 ∧ wr.ownsRow wd.heap.size 2 1 V (pgnL.take k).length (ncells (pgnL.take k)) ∧ Below wd.heap.size wd wr) (fun _ i _ => 6 - (intOf i).toNat)
  case atStart => exact ⟨0, _, rfl, rfl, by omega, World.ownsRow_nil _ _ _ _, Below.refl _ _⟩
  case round =>
    obtain ⟨k, V, rfl, rfl, hk, hown, hb⟩ := hrel
    have HO := Lib.hid hown
    clear hown
    by_cases hkn : k < 6
    · have hi1 : (0 : Int) ≤ (k : Int) := by omega
      have hi2 : (k : Int) < 6 := by omega
      have HCs := Lib.hid (fun j v hv => (HT.out.kept hb).cells hkn (B := B) j v hv)
      have HP := Lib.hid (dxAt_p B k)
      have HX := Lib.hid (pgnL_take hkn)
      have HLn := Lib.hid (pgnL_len (Nat.le_of_lt hkn))
      have hbs := hb.size
      generalize hx : dxAt B k = x at *
      obtain ⟨p, s, r, a, n⟩ := x
      unfold dxL at HCs
      dsimp only at *
      rw [← HP.out] at HX
      go_wp2_with (first
        | (refine wpList_load_cells rfl 70 (.tmp 8) rfl G (k * 4) rfl [.int .i64 p, .int .i64 s, .int .i64 r, .slice a n n] HCs.out _ Try.underlying70 rfl (by kernel_rfl) ?_)
        | (refine wpList_alloc_h rfl 70 rfl (.agg #[.int .i64 0, .int .i64 0, .int .i64 0, .slice none 0 0]) (by kernel_rfl) #[.int .i64 0, .int .i64 0, .int .i64 0, .slice none 0 0] rfl ?_; intro w1 R1 e1 g1 b1; have HL1 := Lib.hid (show Lg wr w1 [(R1, #[.int .i64 0, .int .i64 0, .int .i64 0, .slice none 0 0], 70)] [] from (Lg.first wr).box e1 g1 b1); clear g1 b1 e1)
        | (refine wpList_put_at rfl 70 (.tmp 3) (.tmp 9) rfl rfl (R1) 0 rfl (.agg #[.int .i64 p, .int .i64 s, .int .i64 r, .slice a n n]) rfl #[.int .i64 p, .int .i64 s, .int .i64 r, .slice a n n] rfl 70 #[.int .i64 0, .int .i64 0, .int .i64 0, .slice none 0 0] #[.int .i64 p, .int .i64 s, .int .i64 r, .slice a n n] (HL1.out.get (.head _)) (by kernel_rfl) (by kernel_rfl) (by kernel_rfl) (by kernel_rfl) ?_; intro w2 g2 o2; have HL2 := Lib.hid (show Lg wr w2 [(R1, #[.int .i64 p, .int .i64 s, .int .i64 r, .slice a n n], 70)] [] from HL1.out.put 0 rfl g2 o2 (fun _ h => nomatch h) (fun _ h => nomatch h) rfl); clear g2 o2)
        | (refine wpList_load_one rfl 2 (.tmp 11) rfl (R1) 0 rfl 70 #[.int .i64 p, .int .i64 s, .int .i64 r, .slice a n n] (0, 0) (HL2.out.get (.head _)) (.int .i64 p) rfl _ Try.underlying2 rfl (by kernel_rfl) ?_)
        | (at_builtin; have HOk := Lib.hid (show World.ownsRow (w2.alloc (.cells #[.int .i64 p] 2)) wd.heap.size 2 1 V k (ncells (pgnL.take k)) from by have h := HO.out; rw [HLn.out] at h; exact owns_below h (HL2.out.below.alloc HL2.out.below.size _)); refine wpList_append_own _ rfl (.tmp 10) (.tmp 13) 25 rfl wd.heap.size 2 i0 (.int .i64 0) 1 8 Try.underlying25 HI0.out hz0 hz1 hz2 rfl (by decide) V k (ncells (pgnL.take k)) rfl HOk.out ⟨w2.heap.size, 0, none⟩ 1 1 [.int .i64 p] rfl rfl (one_cells (cell_new1 _ _ _)) (by simp [Value.oneCell']) (by unfold maxLen; omega) (by omega) (Nat.le_trans hbs (Nat.le_trans HL2.out.below.size (by simp))) ?_; intro v' w4 hv hg _; have HV := Lib.hid hv; have HG := Lib.hid hg; clear hv hg))
      go_roundw
      case rel =>
        refine ⟨k + 1, _, by go_num, rfl, by omega, ?_, ?_⟩
        · rw [pgnL_len (by omega), HX.out]
          exact HV.out
        · exact (hb.trans ((HL2.out.below.alloc HL2.out.below.size _).mono hb.size)).grown HG.out (Nat.le_trans hbs (Nat.le_trans HL2.out.below.size (by simp))) (fun q hq => (World.ownsRow.lt HOk.out q hq).1)
      case measure => simp [intOf]; omega
    · obtain rfl : k = 6 := by omega
      go_wp2_with fail
      obtain ⟨a, c, rfl, hc, hn⟩ := NumsNew.of_owns (l := pgnL) (show wr.ownsRow wd.heap.size 2 1 V pgnL.length (ncells pgnL) from HO.out)
      go_ret
      have h1 := HB1.out
      rw [← HBw.out] at h1
      exact ⟨a, c, rfl, hn.wide h1.size (Nat.le_refl _), h1.trans (hb.mono h1.size)⟩
end Go.Proofs.Ytanijfmfjabmfaa
/- What Values of a group are written as: the program's and the model's. Nothing that was there is written. -/
namespace Go.Proofs.Ytanijfmfjabmfaa
open Go.RowKit
set_option linter.unusedVariables false

theorem fput_len {s : ByteArray} {a w k n : Int} {g : Bool} (h : s.size ≤ 8000) : (fputI s a w g k n).length = s.size := by
  unfold fputI
  rw [if_neg (by omega)]
  split
  · exact putB_length _ _
  · simp
/-- The text with the first Values in it. -/
def encTo (F : List Fd) (l : List Vl) (t : List UInt8) : Nat → List UInt8
  | 0 => t
  | k + 1 => fputI ⟨(encTo F l t k).toArray⟩ (fdAt F k).a (fdAt F k).w (fdAt F k).g (vlAt l k).k (vlAt l k).v
theorem encTo_len {F : List Fd} {l : List Vl} {t : List UInt8} (h : t.length ≤ 8000) : ∀ k, (encTo F l t k).length = t.length
  | 0 => rfl
  | k + 1 => by
    have ih := encTo_len (F := F) (l := l) h k
    show (fputI _ _ _ _ _ _).length = _
    rw [fput_len (by show (encTo F l t k).toArray.size ≤ 8000; simpa [ih] using h)]
    show (encTo F l t k).toArray.size = _
    simpa using ih
theorem enc_size {F : List Fd} {l : List Vl} {Z : Nat} (hZ : Z ≤ 100) (k : Nat) : (⟨(encTo F l (fullL Z) k).toArray⟩ : ByteArray).size = Z := by
  show (encTo F l (fullL Z) k).toArray.size = Z
  rw [List.size_toArray, encTo_len (by simp [fullL]; omega)]
  simp [fullL]
/-- What is written. -/
def encF (v : Bool) (d : Df) (l : List Vl) : List UInt8 := if v then encTo d.fs l (fullL d.s.toNat) d.fs.length else []
def encL (p : Int) (l : List Vl) : List UInt8 := encF (vrB p l) (defD p) l
set_option maxRecDepth 100000 in
set_option maxHeartbeats 8000000 in
theorem implEncode_any (p : Int) (a2 : Option Addr) (c2 : Nat) (l : List Vl) (w : World) (hl : RsIn vlL 2 w a2 l) (hlen : l.length ≤ maxLen) :
    Calls Try.prog 43 #[.int .i64 p, .slice a2 l.length c2] w fun e w' => e = .returned (.string ⟨(encL p l).toArray⟩) ∧ Below w.heap.size w w' := by
  unfold maxLen at hlen
  have hF5 := defD_len p
  have hIn := @defD_in p
  have hS := defD_s p
  have HVR := fun W h => Lib.hid (implValuesRight_any p a2 c2 l W h hlen)
  have HD := fun W => Lib.hid (implDefOf_any p W)
  unfold DefOut at HD
  unfold encL
  have hvr : vrB p l = true → ixD p < 6 ∧ l.length = (defD p).fs.length ∧ ∀ i, i < (defD p).fs.length → vrAt (defD p).fs l i = true := fun h => by
    obtain ⟨h1, h2, h3⟩ := vrF_of h
    exact ⟨of_decide_eq_true h1, h2, h3⟩
  generalize defD p = d at *
  obtain ⟨P, S, R, F⟩ := d
  dsimp only at *
  obtain ⟨E, hE⟩ : ∃ E, encF (vrB p l) ⟨P, S, R, F⟩ l = E := ⟨_, rfl⟩
  rw [hE]
  have hE0 : vrB p l = false → E = [] := fun h => hE.symm.trans (by rw [h]; rfl)
  have hE1 : vrB p l = true → E = encTo F l (fullL S.toNat) F.length := fun h => hE.symm.trans (by rw [h]; rfl)
  clear hE
  have HLv := Lib.hid hl
  clear hl
  go_enter Try.func43, Try.ntmps43
  go_wp2_with fail
  refine ((HVR _ HLv.out).out).mono ?_
  rintro e w1 ⟨rfl, h⟩
  have HL1 := Lib.hid (show Lg w w1 [] [] from (Lg.first w).kept h)
  clear h
  rcases hV : vrB p l with _ | _
  · have hv := hE0 hV
    subst hv
    clear HD HVR
    go_wp2_with fail
    go_ret
    exact ⟨rfl, HL1.out.below⟩
  obtain ⟨hix, hln, _⟩ := hvr hV
  have hSz := hS.1 hix
  have HVy := Lib.hid (hE1 hV)
  clear hE0 hE1 hvr hS hV HVR
  obtain ⟨N, hN⟩ : ∃ N, F.length = N := ⟨_, rfl⟩
  have HNl := Lib.hid hN
  have HMl := Lib.hid (hln.trans hN)
  rw [hln, hN]
  rw [hN] at HD hF5 hIn HVy
  clear hN hln
  go_wp2_with fail
  refine ((HD _).out).mono ?_
  rintro e w2 ⟨a, rfl, hn, h⟩
  obtain ⟨L2, e2⟩ : ∃ x, w1.heap.size = x := ⟨_, rfl⟩
  obtain ⟨H2, f2⟩ : ∃ x, w2.heap.size = x := ⟨_, rfl⟩
  have qH2_L2 : L2 ≤ H2 := (by rw [← e2, ← f2]; exact h.size)
  have HL2 := Lib.hid (show Lg w w2 [] [(L2, H2, fun W => RsNew fdL 3 77 L2 H2 W a F)] from HL1.out.made e2 f2 h (by rw [← e2, ← f2]; exact hn.solid))
  clear h hn e2 f2
  obtain ⟨Z, hS8, rfl⟩ : ∃ Z : Nat, (Z = 8 ∨ Z = 14) ∧ S = (Z : Int) := by
    rcases hSz with rfl | rfl
    · exact ⟨8, .inl rfl, rfl⟩
    · exact ⟨14, .inr rfl, rfl⟩
  go_wp2_with (first
    | (refine wpList_alloc_h rfl 70 rfl (.agg #[.int .i64 0, .int .i64 0, .int .i64 0, .slice none 0 0]) (by kernel_rfl) #[.int .i64 0, .int .i64 0, .int .i64 0, .slice none 0 0] rfl ?_; intro w3 R3 e3 g3 b3; have qR3_H2 : H2 ≤ R3 := Nat.le_trans (HL2.out.hi (.head _)).2 (Nat.le_of_eq e3); have HL3 := Lib.hid (show Lg w w3 [(R3, #[.int .i64 0, .int .i64 0, .int .i64 0, .slice none 0 0], 70)] [(L2, H2, fun W => RsNew fdL 3 77 L2 H2 W a F)] from HL2.out.box e3 g3 b3); clear g3 b3 e3)
    | (refine wpList_put_at rfl 70 (.tmp 5) (.tmp 14) rfl rfl (R3) 0 rfl (.agg #[.int .i64 P, .int .i64 (Z : Int), .int .i64 R, .slice a N N]) rfl #[.int .i64 P, .int .i64 (Z : Int), .int .i64 R, .slice a N N] rfl 70 #[.int .i64 0, .int .i64 0, .int .i64 0, .slice none 0 0] #[.int .i64 P, .int .i64 (Z : Int), .int .i64 R, .slice a N N] (HL3.out.get (.head _)) (by kernel_rfl) (by kernel_rfl) (by kernel_rfl) (by kernel_rfl) ?_; intro w4 g4 o4; have HL4 := Lib.hid (show Lg w w4 [(R3, #[.int .i64 P, .int .i64 (Z : Int), .int .i64 R, .slice a N N], 70)] [(L2, H2, fun W => RsNew fdL 3 77 L2 H2 W a F)] from HL3.out.put 0 rfl g4 o4 (fun _ h => nomatch h) (List.forall_mem_cons.2 ⟨.inl qR3_H2, (fun _ h => nomatch h)⟩) rfl); clear g4 o4)
    | (have HLit := Lib.hid (show Lg w (w4.alloc (.cells #[.int .u8 255] 5)) [(R3, #[.int .i64 P, .int .i64 (Z : Int), .int .i64 R, .slice a N N], 70)] [(L2, H2, fun W => RsNew fdL 3 77 L2 H2 W a F)] from HL4.out.kept ((Below.refl _ _).alloc (Nat.le_refl _) _)); refine wpList_load_one rfl 2 (.tmp 16) rfl (R3) 1 rfl 70 #[.int .i64 P, .int .i64 (Z : Int), .int .i64 R, .slice a N N] (0, 0) (HLit.out.get (.head _)) (.int .i64 (Z : Int)) rfl _ Try.underlying2 rfl (by kernel_rfl) ?_))
  refine (repeatN_any Z hS8 _ _ 255 (cell_new1 _ _ _) (by simp)).mono ?_
  rintro e w5 ⟨G, rfl, hG, hh, hb5⟩
  have HL5 := Lib.hid (show Lg w w5 [(R3, #[.int .i64 P, .int .i64 (Z : Int), .int .i64 R, .slice a N N], 70)] [(L2, H2, fun W => RsNew fdL 3 77 L2 H2 W a F)] from HLit.out.kept hb5)
  have hcv := conv_row (P := Try.prog) (l := fullL Z) hh Z (by simp [fullL]) (by rw [fullL_cells]; simp) 22 9 Try.underlying22 Try.underlying5 Try.underlying9 Z
  clear hh hb5 hG
  go_wp2_with (refine wpList_load_one rfl 68 (.tmp 20) rfl (R3) 3 rfl 70 #[.int .i64 P, .int .i64 (Z : Int), .int .i64 R, .slice a N N] (0, 0) (HL5.out.get (.head _)) (.slice a N N) rfl _ Try.underlying68 rfl (by kernel_rfl) ?_)
  have HFl := Lib.hid (HL5.out.at (.head _)).ins
  have HBp := Lib.hid HL5.out.below
  have HLq := Lib.hid (HLv.out.kept HBp.out)
  clear HLit HL5
  go_loopw [6, 23] (fun v i wr => ∃ k : Nat, i = .int .i64 (k : Int) ∧ v = .string ⟨(encTo F l (fullL Z) k).toArray⟩ ∧ k ≤ N ∧ Below w5.heap.size w5 wr) (fun _ i _ => N - (intOf i).toNat)
  case atStart => exact ⟨0, rfl, rfl, by omega, Below.refl _ _⟩
  case round =>
    obtain ⟨k, rfl, rfl, hk, hb⟩ := hrel
    by_cases hkn : k < N
    · have hi1 : (0 : Int) ≤ (k : Int) := by omega
      have hi2 : (k : Int) < (N : Int) := by omega
      have hkF : k < F.length := by have := HNl.out; omega
      have hkl : k < l.length := by have := HMl.out; omega
      obtain ⟨b, o, rfl, hlt, hc⟩ := HFl.out.at (by omega)
      obtain ⟨b2, o2, rfl, hlt2, hc2⟩ := HLq.out.at (by omega)
      have lv : b2 < wr.heap.size := Nat.lt_of_lt_of_le hlt2 hb.size
      have HCf := Lib.hid (fun j v hv => (hb.cell (p := ⟨b, _, none⟩) hlt).trans (hc k _ (fdAt_some hkF) j v hv))
      have HCv := Lib.hid (fun j v hv => (hb.cell (p := ⟨b2, _, none⟩) hlt2).trans (hc2 k _ (vlAt_some hkl) j v hv))
      have hsz : (⟨(encTo F l (fullL Z) k).toArray⟩ : ByteArray).size ≤ maxLen := by
        rw [enc_size (by omega)]
        unfold maxLen
        omega
      have HPut := fun W => Lib.hid (implFieldPut_any ⟨(encTo F l (fullL Z) k).toArray⟩ (fdAt F k).a (fdAt F k).w (fdAt F k).g (vlAt l k).k (vlAt l k).v W hsz)
      have HE := Lib.hid (show encTo F l (fullL Z) (k + 1) = fputI ⟨(encTo F l (fullL Z) k).toArray⟩ (fdAt F k).a (fdAt F k).w (fdAt F k).g (vlAt l k).k (vlAt l k).v from rfl)
      clear hc hc2 hsz
      generalize encTo F l (fullL Z) k = T at *
      generalize fdAt F k = x at *
      generalize vlAt l k = y at *
      obtain ⟨fa, fw, fg⟩ := x
      obtain ⟨vk, vn⟩ := y
      unfold fdL at HCf
      unfold vlL at HCv
      unfold fdV vlV at HPut
      dsimp only at *
      generalize fputI ⟨T.toArray⟩ fa fw fg vk vn = O at *
      go_wp2_with (first
        | (refine wpList_load_cells rfl 77 (.tmp 26) rfl b (o + k * 3) rfl [.int .i64 fa, .int .i64 fw, .bool fg] HCf.out _ Try.underlying77 rfl (by kernel_rfl) ?_)
        | (refine wpList_alloc_h rfl 77 rfl (.agg #[.int .i64 0, .int .i64 0, .bool false]) (by kernel_rfl) #[.int .i64 0, .int .i64 0, .bool false] rfl ?_; intro w1 qR1 e1 g1 b1; have HL1 := Lib.hid (show Lg wr w1 [(qR1, #[.int .i64 0, .int .i64 0, .bool false], 77)] [] from (Lg.first wr).box e1 g1 b1); clear g1 b1 e1)
        | (refine wpList_put_at rfl 77 (.tmp 8) (.tmp 27) rfl rfl (qR1) 0 rfl (.agg #[.int .i64 fa, .int .i64 fw, .bool fg]) rfl #[.int .i64 fa, .int .i64 fw, .bool fg] rfl 77 #[.int .i64 0, .int .i64 0, .bool false] #[.int .i64 fa, .int .i64 fw, .bool fg] (HL1.out.get (.head _)) (by kernel_rfl) (by kernel_rfl) (by kernel_rfl) (by kernel_rfl) ?_; intro w2 g2 o2; have HL2 := Lib.hid (show Lg wr w2 [(qR1, #[.int .i64 fa, .int .i64 fw, .bool fg], 77)] [] from HL1.out.put 0 rfl g2 o2 (fun _ h => nomatch h) (fun _ h => nomatch h) rfl); clear g2 o2))
      refine wp_region_quiet (C := fun W => Below w2.heap.size w2 W) (by kernel_rfl) (by kernel_rfl) (Below.refl _ _).drew ?_
      dsimp only
      go_big_quiet_want; go_big_quiet_op; first | go_big_quiet_on | (refine ⟨_, fun _ _ => rfl, ?_⟩; go_big_quiet_on)
      go_big_quiet_want; refine ⟨.agg #[.int .i64 fa, .int .i64 fw, .bool fg], fun W hW => (quietLoadCells 77 (.tmp 8) rfl qR1 0 rfl [.int .i64 fa, .int .i64 fw, .bool fg] (rowAt0 (HL2.out.get (.head _)) hW) _ Try.underlying77 rfl (by kernel_rfl)), ?_⟩; simp only [Act.put, List.setIfInBounds_toArray, List.set_cons_zero, List.set_cons_succ]; go_big_quiet_on
      go_big_quiet_want; go_big_quiet_op; first | go_big_quiet_on | (refine ⟨_, fun _ _ => rfl, ?_⟩; go_big_quiet_on)
      go_big_quiet_want; go_big_quiet_op; first | go_big_quiet_on | (refine ⟨_, fun _ _ => rfl, ?_⟩; go_big_quiet_on)
      go_big_quiet_want; go_big_quiet_op; first | go_big_quiet_on | (refine ⟨_, fun _ _ => rfl, ?_⟩; go_big_quiet_on)
      go_big_quiet_want; refine ⟨.agg #[.int .i64 vk, .int .i64 vn], fun W hW => (quietLoadCells 142 (.tmp 32) rfl b2 (o2 + k * 2) rfl [.int .i64 vk, .int .i64 vn] (grownCells (Nat.lt_of_lt_of_le lv HL2.out.below.size) (fun j v hv => (HL2.out.below.cell (p := ⟨b2, _, none⟩) lv).trans (HCv.out j v hv)) hW) _ Try.underlying142 rfl (by kernel_rfl)), ?_⟩; simp only [Act.put, List.setIfInBounds_toArray, List.set_cons_zero, List.set_cons_succ]; go_big_quiet_on
      go_big_quiet_want; go_big_quiet_op; refine ⟨_, fun W hW => quietCall hW (HPut W).out, ?_⟩; go_big_quiet_on
      go_big_quiet_want; go_big_quiet_op; first | go_big_quiet_on | (refine ⟨_, fun _ _ => rfl, ?_⟩; go_big_quiet_on)
      refine wpQuiet_nil ?_
      intro X hX
      have hbX := hb.trans ((HL2.out.below.trans (hX.mono HL2.out.below.size)).mono hb.size)
      go_wp2_with fail
      go_roundw
      case rel => exact ⟨k + 1, by go_num, by rw [HE.out], by omega, hbX⟩
      case measure => simp [intOf]; omega
    · obtain rfl : k = N := by omega
      have hv := HVy.out
      go_wp2_with fail
      go_ret
      exact ⟨by rw [hv]; rfl, HBp.out.trans (hb.mono HBp.out.size)⟩
set_option maxRecDepth 100000 in
set_option maxHeartbeats 8000000 in
theorem l08Encode_any (p : Int) (a2 : Option Addr) (c2 : Nat) (l : List Vl) (w : World) (hl : RsIn vlL 2 w a2 l) (hlen : l.length ≤ maxLen) (hV : vrB p l = true) :
    Calls Try.prog 132 #[.int .i64 p, .slice a2 l.length c2] w fun e w' => e = .returned (.string ⟨(encL p l).toArray⟩) ∧ Below w.heap.size w w' := by
  unfold maxLen at hlen
  have hF5 := defD_len p
  have hIn := @defD_in p
  have hS := defD_s p
  have HD := fun W => Lib.hid (specDefOf_any p W)
  unfold DefOut at HD
  unfold encL
  have hvr : vrB p l = true → ixD p < 6 ∧ l.length = (defD p).fs.length ∧ ∀ i, i < (defD p).fs.length → vrAt (defD p).fs l i = true := fun h => by
    obtain ⟨h1, h2, h3⟩ := vrF_of h
    exact ⟨of_decide_eq_true h1, h2, h3⟩
  generalize defD p = d at *
  obtain ⟨P, S, R, F⟩ := d
  dsimp only at *
  obtain ⟨E, hE⟩ : ∃ E, encF (vrB p l) ⟨P, S, R, F⟩ l = E := ⟨_, rfl⟩
  rw [hE]
  have hE0 : vrB p l = false → E = [] := fun h => hE.symm.trans (by rw [h]; rfl)
  have hE1 : vrB p l = true → E = encTo F l (fullL S.toNat) F.length := fun h => hE.symm.trans (by rw [h]; rfl)
  clear hE
  have HLv := Lib.hid hl
  clear hl
  obtain ⟨hix, hln, hall⟩ := hvr hV
  have hSz := hS.1 hix
  have HVy := Lib.hid (hE1 hV)
  clear hE0 hE1 hvr hS hV
  obtain ⟨N, hN⟩ : ∃ N, F.length = N := ⟨_, rfl⟩
  have HNl := Lib.hid hN
  have HMl := Lib.hid (hln.trans hN)
  have HAl := Lib.hid hall
  rw [hln, hN]
  rw [hN] at HD hF5 hIn HVy
  have HIn := Lib.hid (fun i h => hIn (i := i) h)
  clear hN hln hall hIn
  obtain ⟨Z, hS8, rfl⟩ : ∃ Z : Nat, (Z = 8 ∨ Z = 14) ∧ S = (Z : Int) := by
    rcases hSz with rfl | rfl
    · exact ⟨8, .inl rfl, rfl⟩
    · exact ⟨14, .inr rfl, rfl⟩
  clear hSz
  go_enter Try.func132, Try.ntmps132
  go_wp2_with fail
  refine ((HD _).out).mono ?_
  rintro e w1 ⟨a, rfl, hn, h⟩
  obtain ⟨L1, e1⟩ : ∃ x, w.heap.size = x := ⟨_, rfl⟩
  obtain ⟨H1, f1⟩ : ∃ x, w1.heap.size = x := ⟨_, rfl⟩
  have qH1_L1 : L1 ≤ H1 := (by rw [← e1, ← f1]; exact h.size)
  have HL1 := Lib.hid (show Lg w w1 [] [(L1, H1, fun W => RsNew fdL 3 77 L1 H1 W a F)] from (Lg.first w).made e1 f1 h (by rw [← e1, ← f1]; exact hn.solid))
  clear h hn e1 f1
  go_wp2_with (first
    | (refine wpList_alloc_h rfl 70 rfl (.agg #[.int .i64 0, .int .i64 0, .int .i64 0, .slice none 0 0]) (by kernel_rfl) #[.int .i64 0, .int .i64 0, .int .i64 0, .slice none 0 0] rfl ?_; intro w2 R2 e2 g2 b2; have qR2_H1 : H1 ≤ R2 := Nat.le_trans (HL1.out.hi (.head _)).2 (Nat.le_of_eq e2); have HL2 := Lib.hid (show Lg w w2 [(R2, #[.int .i64 0, .int .i64 0, .int .i64 0, .slice none 0 0], 70)] [(L1, H1, fun W => RsNew fdL 3 77 L1 H1 W a F)] from HL1.out.box e2 g2 b2); clear g2 b2 e2)
    | (refine wpList_put_at rfl 70 (.tmp 5) (.tmp 9) rfl rfl (R2) 0 rfl (.agg #[.int .i64 P, .int .i64 (Z : Int), .int .i64 R, .slice a N N]) rfl #[.int .i64 P, .int .i64 (Z : Int), .int .i64 R, .slice a N N] rfl 70 #[.int .i64 0, .int .i64 0, .int .i64 0, .slice none 0 0] #[.int .i64 P, .int .i64 (Z : Int), .int .i64 R, .slice a N N] (HL2.out.get (.head _)) (by kernel_rfl) (by kernel_rfl) (by kernel_rfl) (by kernel_rfl) ?_; intro w3 g3 o3; have HL3 := Lib.hid (show Lg w w3 [(R2, #[.int .i64 P, .int .i64 (Z : Int), .int .i64 R, .slice a N N], 70)] [(L1, H1, fun W => RsNew fdL 3 77 L1 H1 W a F)] from HL2.out.put 0 rfl g3 o3 (fun _ h => nomatch h) (List.forall_mem_cons.2 ⟨.inl qR2_H1, (fun _ h => nomatch h)⟩) rfl); clear g3 o3)
    | (refine wpList_load_one rfl 2 (.tmp 10) rfl (R2) 1 rfl 70 #[.int .i64 P, .int .i64 (Z : Int), .int .i64 R, .slice a N N] (0, 0) (HL3.out.get (.head _)) (.int .i64 (Z : Int)) rfl _ Try.underlying2 rfl (by kernel_rfl) ?_))
  refine ((l06FillE_any Z (by omega) _)).mono ?_
  rintro e w4 ⟨rfl, h⟩
  have HL4 := Lib.hid (show Lg w w4 [(R2, #[.int .i64 P, .int .i64 (Z : Int), .int .i64 R, .slice a N N], 70)] [(L1, H1, fun W => RsNew fdL 3 77 L1 H1 W a F)] from HL3.out.kept h)
  clear h
  go_wp2_with fail
  have HFl := Lib.hid (HL4.out.at (.head _)).ins
  have HR50 := Lib.hid (HL4.out.get (.head _))
  have HBp := Lib.hid HL4.out.below
  have HLq := Lib.hid (HLv.out.kept HBp.out)
  clear HL1 HL2 HL3 HL4
  go_loopw [6, 7] (fun v i wr => ∃ k : Nat, i = .int .i64 (k : Int) ∧ v = .string ⟨(encTo F l (fullL Z) k).toArray⟩ ∧ k ≤ N ∧ Below w4.heap.size w4 wr) (fun _ i _ => N - (intOf i).toNat)
  case atStart => exact ⟨0, rfl, rfl, by omega, Below.refl _ _⟩
  case round =>
    obtain ⟨k, rfl, rfl, hk, hb⟩ := hrel
    by_cases hkn : k < N
    · have hi1 : (0 : Int) ≤ (k : Int) := by omega
      have hi2 : (k : Int) < (N : Int) := by omega
      have hkF : k < F.length := by have := HNl.out; omega
      have hkl : k < l.length := by have := HMl.out; omega
      obtain ⟨b, o, rfl, hlt, hc⟩ := HFl.out.at (by omega)
      obtain ⟨b2, o2, rfl, hlt2, hc2⟩ := HLq.out.at (by omega)
      have lv : b2 < wr.heap.size := Nat.lt_of_lt_of_le hlt2 hb.size
      have lf : b < wr.heap.size := Nat.lt_of_lt_of_le hlt hb.size
      have HR5 := Lib.hid ((hb.block _ (Array.getElem?_eq_some_iff.1 HR50.out).1).trans HR50.out)
      have HCf := Lib.hid (fun j v hv => (hb.cell (p := ⟨b, _, none⟩) hlt).trans (hc k _ (fdAt_some hkF) j v hv))
      have HCv := Lib.hid (fun j v hv => (hb.cell (p := ⟨b2, _, none⟩) hlt2).trans (hc2 k _ (vlAt_some hkl) j v hv))
      have hsz : (⟨(encTo F l (fullL Z) k).toArray⟩ : ByteArray).size = Z := enc_size (by omega) k
      obtain ⟨A, B, ha, hbw, q1, q2, q3, q4⟩ := HIn.out k hkn
      have hva := HAl.out k hkF
      unfold vrAt at hva
      have HPut : ∀ W, Hid (Calls Try.prog 182 #[.string ⟨(encTo F l (fullL Z) k).toArray⟩, fdV (fdAt F k).a (fdAt F k).w (fdAt F k).g, vlV (vlAt l k).k (vlAt l k).v] W fun e W' => e = .returned (.string ⟨(encTo F l (fullL Z) (k + 1)).toArray⟩) ∧ Below W.heap.size W W') := fun W => Lib.hid (by
        rw [ha, hbw] at hva ⊢
        have h1 : hasB ⟨(encTo F l (fullL Z) k).toArray⟩ (A : Int) (B : Int) = true := hasB_lit q1 q2 q3 (by omega)
        have h2 := l07Set_any ⟨(encTo F l (fullL Z) k).toArray⟩ A B (fdAt F k).g (vlAt l k).k (vlAt l k).v W (by omega) q1 q2 q3 (by omega) hva
        rw [← fput_on (by omega) hva h1] at h2
        rw [← ha, ← hbw] at h2 ⊢
        exact h2)
      clear hc hc2 hsz hva ha hbw q4
      obtain ⟨O, hO⟩ : ∃ O, encTo F l (fullL Z) (k + 1) = O := ⟨_, rfl⟩
      rw [hO] at HPut
      have HO := Lib.hid hO
      clear hO
      generalize encTo F l (fullL Z) k = T at *
      generalize fdAt F k = x at *
      generalize vlAt l k = y at *
      obtain ⟨fa, fw, fg⟩ := x
      obtain ⟨vk, vn⟩ := y
      unfold fdL at HCf
      unfold vlL at HCv
      unfold fdV vlV at HPut
      dsimp only at *
      go_wp2_with fail
      refine wp_region_quiet (C := fun W => Below wr.heap.size wr W) (by kernel_rfl) (by kernel_rfl) (Below.refl _ _).drew ?_
      dsimp only
      go_big_quiet_want; go_big_quiet_op; first | go_big_quiet_on | (refine ⟨_, fun _ _ => rfl, ?_⟩; go_big_quiet_on)
      go_big_quiet_want; go_big_quiet_op; first | go_big_quiet_on | (refine ⟨_, fun _ _ => rfl, ?_⟩; go_big_quiet_on)
      go_big_quiet_want; refine ⟨.slice (some ⟨b, o, none⟩) N N, fun W hW => (quietLoadOne 68 (.tmp 20) rfl R2 3 rfl _ (rowCells HR5.out hW _ _ rfl) _ Try.underlying68 rfl), ?_⟩; simp only [Act.put, List.setIfInBounds_toArray, List.set_cons_zero, List.set_cons_succ]; go_big_quiet_on
      go_big_quiet_want; go_big_quiet_op; first | go_big_quiet_on | (refine ⟨_, fun _ _ => rfl, ?_⟩; go_big_quiet_on)
      go_big_quiet_want; go_big_quiet_op; first | go_big_quiet_on | (refine ⟨_, fun _ _ => rfl, ?_⟩; go_big_quiet_on)
      go_big_quiet_want; refine ⟨.agg #[.int .i64 fa, .int .i64 fw, .bool fg], fun W hW => (quietLoadCells 77 (.tmp 23) rfl b (o + k * 3) rfl [.int .i64 fa, .int .i64 fw, .bool fg] (grownCells lf HCf.out hW) _ Try.underlying77 rfl (by kernel_rfl)), ?_⟩; simp only [Act.put, List.setIfInBounds_toArray, List.set_cons_zero, List.set_cons_succ]; go_big_quiet_on
      go_big_quiet_want; go_big_quiet_op; first | go_big_quiet_on | (refine ⟨_, fun _ _ => rfl, ?_⟩; go_big_quiet_on)
      go_big_quiet_want; go_big_quiet_op; first | go_big_quiet_on | (refine ⟨_, fun _ _ => rfl, ?_⟩; go_big_quiet_on)
      go_big_quiet_want; go_big_quiet_op; first | go_big_quiet_on | (refine ⟨_, fun _ _ => rfl, ?_⟩; go_big_quiet_on)
      go_big_quiet_want; refine ⟨.agg #[.int .i64 vk, .int .i64 vn], fun W hW => (quietLoadCells 142 (.tmp 27) rfl b2 (o2 + k * 2) rfl [.int .i64 vk, .int .i64 vn] (grownCells lv HCv.out hW) _ Try.underlying142 rfl (by kernel_rfl)), ?_⟩; simp only [Act.put, List.setIfInBounds_toArray, List.set_cons_zero, List.set_cons_succ]; go_big_quiet_on
      go_big_quiet_want; go_big_quiet_op; refine ⟨_, fun W hW => quietCall hW (HPut W).out, ?_⟩; go_big_quiet_on
      go_big_quiet_want; go_big_quiet_op; first | go_big_quiet_on | (refine ⟨_, fun _ _ => rfl, ?_⟩; go_big_quiet_on)
      refine wpQuiet_nil ?_
      intro X hX
      have hbX := hb.trans (hX.mono hb.size)
      go_wp2_with fail
      go_roundw
      case rel => exact ⟨k + 1, by go_num, by rw [HO.out], by omega, hbX⟩
      case measure => simp [intOf]; omega
    · obtain rfl : k = N := by omega
      have hv := HVy.out
      go_wp2_with fail
      go_ret
      exact ⟨by rw [hv]; rfl, HBp.out.trans (hb.mono HBp.out.size)⟩
set_option maxRecDepth 100000 in
set_option maxHeartbeats 8000000 in
theorem specEncode_any (p : Int) (a2 : Option Addr) (c2 : Nat) (l : List Vl) (w : World) (hl : RsIn vlL 2 w a2 l) (hlen : l.length ≤ maxLen) :
    Calls Try.prog 49 #[.int .i64 p, .slice a2 l.length c2] w fun e w' => e = .returned (.string ⟨(encL p l).toArray⟩) ∧ Below w.heap.size w w' := by
  have HVR := fun W h => Lib.hid (specValuesRight_any p a2 c2 l W h hlen)
  have HLv := Lib.hid hl
  obtain ⟨E, hE⟩ : ∃ E, encL p l = E := ⟨_, rfl⟩
  rcases hV : vrB p l with _ | _
  · have hv : E = [] := hE.symm.trans (by unfold encL; rw [hV]; rfl)
    subst hv
    rw [hE]
    rw [hV] at HVR
    go_enter Try.func49, Try.ntmps49
    go_wp2_with fail
    refine (HVR _ HLv.out).out.mono ?_
    rintro e w1 ⟨rfl, h1⟩
    go_wp2_with fail
    go_ret
    exact ⟨rfl, h1⟩
  · have HEn := fun W h => Lib.hid (l08Encode_any p a2 c2 l W h hlen hV)
    rw [hE] at HEn ⊢
    rw [hV] at HVR
    clear hE hV hl
    go_enter Try.func49, Try.ntmps49
    go_wp2_with fail
    refine (HVR _ HLv.out).out.mono ?_
    rintro e w1 ⟨rfl, h1⟩
    go_wp2_with fail
    refine (HEn _ (HLv.out.kept h1)).out.mono ?_
    rintro e w2 ⟨rfl, h2⟩
    go_wp2_with fail
    go_ret
    exact ⟨rfl, h1.trans (h2.mono h1.size)⟩
end Go.Proofs.Ytanijfmfjabmfaa
/- What a group's bytes tell: the program's and the model's, in memory of the call's own. -/
namespace Go.Proofs.Ytanijfmfjabmfaa
open Go.RowKit
set_option linter.unusedVariables false

/-- The code of a text that is to have so many bytes. -/
def sizeC (n : Nat) (z : Int) : Int := if (n : Int) < z then 4 else if z < (n : Int) then 2 else 0
/-- What one Field tells. -/
def tellF (s : ByteArray) (f : Fd) : Vl := ⟨(fgetI s f.a f.w f.g).1, (fgetI s f.a f.w f.g).2⟩
def decF (s : ByteArray) (F : List Fd) : List Vl := F.map (tellF s)
/-- The code, and the Values. -/
def decC (there : Bool) (z : Int) (s : ByteArray) : Int := if 8000 < s.size then 2 else if there then sizeC s.size z else 6
def decV (there : Bool) (z : Int) (F : List Fd) (s : ByteArray) : List Vl := if decC there z s = 0 then decF s F else []
theorem decF_take {s : ByteArray} {F : List Fd} {k : Nat} (h : k < F.length) : decF s (F.take (k + 1)) = decF s (F.take k) ++ [tellF s (fdAt F k)] := by
  rw [List.take_add_one, fdAt_some h]
  unfold decF
  simp
theorem decF_len (s : ByteArray) (F : List Fd) : (decF s F).length = F.length := by simp [decF]
theorem Dec.info : (Try.prog.info? 142).map (fun i => (i.zero, i.size, i.bytes)) = some (some (.agg #[.int .i64 0, .int .i64 0]), 2, 16) := by kernel_rfl
theorem sizeFault_any (s : ByteArray) (z : Int) (w : World) (hs : s.size ≤ 8000) :
    Calls Try.prog 127 #[.string s, .int .i64 z] w fun e w' => e = .returned (.int .i64 (sizeC s.size z)) ∧ w = w' := by
  obtain ⟨C, hC⟩ : ∃ C, sizeC s.size z = C := ⟨_, rfl⟩
  rw [hC]
  by_cases h1 : (s.size : Int) < z
  · have d1 : decide ((s.size : Int) < z) = true := decide_eq_true h1
    have HC := Lib.hid (hC.symm.trans (if_pos h1))
    clear hC
    go_enter Try.func127, Try.ntmps127
    go_wp2
    go_ret
    exact ⟨by rw [HC.out]; rfl, rfl⟩
  · have d1 : decide ((s.size : Int) < z) = false := decide_eq_false h1
    by_cases h2 : z < (s.size : Int)
    · have d2 : decide (z < (s.size : Int)) = true := decide_eq_true h2
      have HC := Lib.hid (hC.symm.trans ((if_neg h1).trans (if_pos h2)))
      clear hC
      go_enter Try.func127, Try.ntmps127
      go_wp2
      go_ret
      exact ⟨by rw [HC.out]; rfl, rfl⟩
    · have d2 : decide (z < (s.size : Int)) = false := decide_eq_false h2
      have HC := Lib.hid (hC.symm.trans ((if_neg h1).trans (if_neg h2)))
      clear hC
      go_enter Try.func127, Try.ntmps127
      go_wp2
      go_ret
      exact ⟨by rw [HC.out]; rfl, rfl⟩
/-- What Decode answers. -/
def DecOut (p : Int) (s : ByteArray) (w : World) (e : Ending) (w' : World) : Prop :=
  ∃ a c, e = .returned (.agg #[.slice a (decV (decide (ixD p < 6)) (defD p).s (defD p).fs s).length c, .int .i64 (decC (decide (ixD p < 6)) (defD p).s s)]) ∧ RsNew vlL 2 142 w.heap.size w'.heap.size w' a (decV (decide (ixD p < 6)) (defD p).s (defD p).fs s) ∧ Below w.heap.size w w'
set_option maxRecDepth 100000 in
set_option maxHeartbeats 8000000 in
theorem implDecode_any (p : Int) (s : ByteArray) (w : World) (hs : s.size ≤ maxLen) :
    Calls Try.prog 45 #[.int .i64 p, .string s] w (DecOut p s w) := by
  have HL := fun U => Lib.hid (tooLong_any s U hs)
  obtain ⟨i0, hi, hz0, hz1, hz2⟩ := info_parts Dec.info
  have HI0 := Lib.hid hi
  clear hi
  unfold maxLen at hs
  have hF5 := defD_len p
  have hIn := @defD_in p
  have hS := defD_s p
  have HRow := fun B G W h => Lib.hid (rowOf_d B G p W h)
  have HN := Lib.hid (fun B G W lo hi h1 h2 h3 => @flds_new B G W lo hi h1 h2 h3 p)
  unfold DecOut
  generalize defD p = d at *
  obtain ⟨P, S, R, F⟩ := d
  dsimp only at *
  obtain ⟨there, hth⟩ : ∃ t, decide (ixD p < 6) = t := ⟨_, rfl⟩
  rw [hth] at HRow ⊢
  have hSz : there = true → S = 8 ∨ S = 14 := fun h => hS.1 (of_decide_eq_true (hth.trans h))
  have hSn : there = false → S = 0 := fun h => (hS.2 (of_decide_eq_false (hth.trans h))).1
  clear hth hS
  obtain ⟨C, hC⟩ : ∃ C, decC there S s = C := ⟨_, rfl⟩
  obtain ⟨E, hE⟩ : ∃ E, decV there S F s = E := ⟨_, rfl⟩
  rw [hC, hE]
  have hE0 : C ≠ 0 → E = [] := fun h => hE.symm.trans (if_neg (by rw [hC]; exact h))
  have hE1 : C = 0 → E = decF s F := fun h => hE.symm.trans (if_pos (by rw [hC]; exact h))
  clear hE
  obtain ⟨N, hN⟩ : ∃ N, F.length = N := ⟨_, rfl⟩
  have HNl := Lib.hid hN
  rw [hN] at HRow hF5 hIn
  clear hN
  by_cases hbig : 8000 < s.size
  · have hd : decide (8000 < (s.size : Int)) = true := decide_eq_true (by omega)
    rw [hd] at HL
    have hC2 : C = 2 := hC.symm.trans (if_pos hbig)
    have HC := Lib.hid hC2
    have HE := Lib.hid (hE0 (by rw [hC2]; decide))
    clear hC hC2 hE0 hE1 hSz hSn hIn HRow
    go_enter Try.func45, Try.ntmps45
    go_wp2_with (first
      | (refine wpList_alloc_h rfl 66 rfl (.agg #[.slice none 0 0, .int .i64 0]) (by kernel_rfl) #[.slice none 0 0, .int .i64 0] rfl ?_; intro w1 R1 e1 g1 b1; have HL1 := Lib.hid (show Lg w w1 [(R1, #[.slice none 0 0, .int .i64 0], 66)] [] from (Lg.first w).box e1 g1 b1); clear g1 b1 e1))
    refine ((HL _).out).mono ?_
    rintro e w' ⟨rfl, rfl⟩
    go_wp2_with (first
      | (refine wpList_put_at rfl 66 (.tmp 4) (.tmp 13) rfl rfl (R1) 0 rfl (.agg #[.slice none 0 0, .int .i64 2]) rfl #[.slice none 0 0, .int .i64 2] rfl 66 #[.slice none 0 0, .int .i64 0] #[.slice none 0 0, .int .i64 2] (HL1.out.get (.head _)) (by kernel_rfl) (by kernel_rfl) (by kernel_rfl) (by kernel_rfl) ?_; intro w2 g2 o2; have HL2 := Lib.hid (show Lg w w2 [(R1, #[.slice none 0 0, .int .i64 2], 66)] [] from HL1.out.put 0 rfl g2 o2 (fun _ h => nomatch h) (fun _ h => nomatch h) rfl); clear g2 o2))
    exact bodyPost_ret (results_cell_row (p := 4) (ty := 66) (by kernel_rfl) _ _ (R1) 66 _ (0, 0) _ rfl (HL2.out.get (.head _)) Try.underlying66 rfl (by kernel_rfl)) rfl ⟨none, 0, by rw [HE.out, HC.out]; rfl, by rw [HE.out]; exact .inl rfl, HL2.out.below⟩
  have hd : decide (8000 < (s.size : Int)) = false := decide_eq_false (by omega)
  rw [hd] at HL
  have hC3 : C = if there then sizeC s.size S else 6 := hC.symm.trans (if_neg hbig)
  have HSF := fun U => Lib.hid (sizeFault_any s S U (by omega))
  clear hC
  go_enter Try.func45, Try.ntmps45
  go_wp2_with (first
    | (refine wpList_alloc_h rfl 66 rfl (.agg #[.slice none 0 0, .int .i64 0]) (by kernel_rfl) #[.slice none 0 0, .int .i64 0] rfl ?_; intro w1 R1 e1 g1 b1; have HL1 := Lib.hid (show Lg w w1 [(R1, #[.slice none 0 0, .int .i64 0], 66)] [] from (Lg.first w).box e1 g1 b1); clear g1 b1 e1))
  refine ((HL _).out).mono ?_
  rintro e w' ⟨rfl, rfl⟩
  go_wp2_with fail
  refine (defs_any _).mono ?_
  rintro e w2 ⟨G, rfl, hT, h⟩
  obtain ⟨L2, e2⟩ : ∃ x, w1.heap.size = x := ⟨_, rfl⟩
  obtain ⟨H2, f2⟩ : ∃ x, w2.heap.size = x := ⟨_, rfl⟩
  have qL2_R1 : R1 < L2 := Nat.lt_of_lt_of_eq (HL1.out.lt (.head _)) e2
  have qH2_L2 : L2 ≤ H2 := (by rw [← e2, ← f2]; exact h.size)
  have HL2 := Lib.hid (show Lg w w2 [(R1, #[.slice none 0 0, .int .i64 0], 66)] [(L2, H2, fun W => RsNew fdL 3 77 L2 H2 W (aD L2 p) F)] from HL1.out.made e2 f2 h (by rw [← e2, ← f2]; exact (HN.out _ _ _ _ _ hT (Nat.le_refl _) hT.hi).solid))
  have HT2 := Lib.hid (show TabAt L2 G w2 from by rw [← e2]; exact hT)
  clear h hT e2 f2
  go_wp2_with fail
  refine ((HRow _ _ _ HT2.out).out).mono ?_
  rintro e w3 ⟨rfl, h⟩
  have HL3 := Lib.hid (show Lg w w3 [(R1, #[.slice none 0 0, .int .i64 0], 66)] [(L2, H2, fun W => RsNew fdL 3 77 L2 H2 W (aD L2 p) F)] from HL2.out.kept h)
  clear h
  rcases there with _ | _
  · have HC := Lib.hid (show C = 6 from hC3)
    have HE := Lib.hid (hE0 (by rw [HC.out]; decide))
    clear hC3 hE0 hE1 hSz hSn hIn HSF
    go_wp2_with (first
      | (refine wpList_alloc_h rfl 70 rfl (.agg #[.int .i64 0, .int .i64 0, .int .i64 0, .slice none 0 0]) (by kernel_rfl) #[.int .i64 0, .int .i64 0, .int .i64 0, .slice none 0 0] rfl ?_; intro w4 R4 e4 g4 b4; have qR4_R1 : R1 < R4 := Nat.lt_of_lt_of_eq (HL3.out.lt (.head _)) e4; have qR4_H2 : H2 ≤ R4 := Nat.le_trans (HL3.out.hi (.head _)).2 (Nat.le_of_eq e4); have HL4 := Lib.hid (show Lg w w4 [(R4, #[.int .i64 0, .int .i64 0, .int .i64 0, .slice none 0 0], 70), (R1, #[.slice none 0 0, .int .i64 0], 66)] [(L2, H2, fun W => RsNew fdL 3 77 L2 H2 W (aD L2 p) F)] from HL3.out.box e4 g4 b4); clear g4 b4 e4)
      | (refine wpList_put_at rfl 70 (.tmp 5) (.tmp 18) rfl rfl (R4) 0 rfl (.agg #[.int .i64 P, .int .i64 S, .int .i64 R, .slice (aD L2 p) N N]) rfl #[.int .i64 P, .int .i64 S, .int .i64 R, .slice (aD L2 p) N N] rfl 70 #[.int .i64 0, .int .i64 0, .int .i64 0, .slice none 0 0] #[.int .i64 P, .int .i64 S, .int .i64 R, .slice (aD L2 p) N N] (HL4.out.get (.head _)) (by kernel_rfl) (by kernel_rfl) (by kernel_rfl) (by kernel_rfl) ?_; intro w5 g5 o5; have HL5 := Lib.hid (show Lg w w5 [(R4, #[.int .i64 P, .int .i64 S, .int .i64 R, .slice (aD L2 p) N N], 70), (R1, #[.slice none 0 0, .int .i64 0], 66)] [(L2, H2, fun W => RsNew fdL 3 77 L2 H2 W (aD L2 p) F)] from HL4.out.put 0 rfl g5 o5 (List.forall_mem_cons.2 ⟨Nat.ne_of_lt qR4_R1, (fun _ h => nomatch h)⟩) (List.forall_mem_cons.2 ⟨.inl qR4_H2, (fun _ h => nomatch h)⟩) rfl); clear g5 o5)
      | (refine wpList_put_at rfl 66 (.tmp 4) (.tmp 22) rfl rfl (R1) 0 rfl (.agg #[.slice none 0 0, .int .i64 6]) rfl #[.slice none 0 0, .int .i64 6] rfl 66 #[.slice none 0 0, .int .i64 0] #[.slice none 0 0, .int .i64 6] (HL5.out.get (.tail _ (.head _))) (by kernel_rfl) (by kernel_rfl) (by kernel_rfl) (by kernel_rfl) ?_; intro w6 g6 o6; have HL6 := Lib.hid (show Lg w w6 [(R4, #[.int .i64 P, .int .i64 S, .int .i64 R, .slice (aD L2 p) N N], 70), (R1, #[.slice none 0 0, .int .i64 6], 66)] [(L2, H2, fun W => RsNew fdL 3 77 L2 H2 W (aD L2 p) F)] from HL5.out.put 1 rfl g6 o6 (List.forall_mem_cons.2 ⟨Nat.ne_of_gt qR4_R1, (fun _ h => nomatch h)⟩) (List.forall_mem_cons.2 ⟨.inr qL2_R1, (fun _ h => nomatch h)⟩) rfl); clear g6 o6))
    exact bodyPost_ret (results_cell_row (p := 4) (ty := 66) (by kernel_rfl) _ _ (R1) 66 _ (0, 0) _ rfl (HL6.out.get (.tail _ (.head _))) Try.underlying66 rfl (by kernel_rfl)) rfl ⟨none, 0, by rw [HE.out, HC.out]; rfl, by rw [HE.out]; exact .inl rfl, HL6.out.below⟩
  have hC4 : sizeC s.size S = C := hC3.symm
  rw [hC4] at HSF
  go_wp2_with (first
    | (refine wpList_alloc_h rfl 70 rfl (.agg #[.int .i64 0, .int .i64 0, .int .i64 0, .slice none 0 0]) (by kernel_rfl) #[.int .i64 0, .int .i64 0, .int .i64 0, .slice none 0 0] rfl ?_; intro w4 R4 e4 g4 b4; have qR4_R1 : R1 < R4 := Nat.lt_of_lt_of_eq (HL3.out.lt (.head _)) e4; have qR4_H2 : H2 ≤ R4 := Nat.le_trans (HL3.out.hi (.head _)).2 (Nat.le_of_eq e4); have HL4 := Lib.hid (show Lg w w4 [(R4, #[.int .i64 0, .int .i64 0, .int .i64 0, .slice none 0 0], 70), (R1, #[.slice none 0 0, .int .i64 0], 66)] [(L2, H2, fun W => RsNew fdL 3 77 L2 H2 W (aD L2 p) F)] from HL3.out.box e4 g4 b4); clear g4 b4 e4)
    | (refine wpList_put_at rfl 70 (.tmp 5) (.tmp 18) rfl rfl (R4) 0 rfl (.agg #[.int .i64 P, .int .i64 S, .int .i64 R, .slice (aD L2 p) N N]) rfl #[.int .i64 P, .int .i64 S, .int .i64 R, .slice (aD L2 p) N N] rfl 70 #[.int .i64 0, .int .i64 0, .int .i64 0, .slice none 0 0] #[.int .i64 P, .int .i64 S, .int .i64 R, .slice (aD L2 p) N N] (HL4.out.get (.head _)) (by kernel_rfl) (by kernel_rfl) (by kernel_rfl) (by kernel_rfl) ?_; intro w5 g5 o5; have HL5 := Lib.hid (show Lg w w5 [(R4, #[.int .i64 P, .int .i64 S, .int .i64 R, .slice (aD L2 p) N N], 70), (R1, #[.slice none 0 0, .int .i64 0], 66)] [(L2, H2, fun W => RsNew fdL 3 77 L2 H2 W (aD L2 p) F)] from HL4.out.put 0 rfl g5 o5 (List.forall_mem_cons.2 ⟨Nat.ne_of_lt qR4_R1, (fun _ h => nomatch h)⟩) (List.forall_mem_cons.2 ⟨.inl qR4_H2, (fun _ h => nomatch h)⟩) rfl); clear g5 o5)
    | (refine wpList_load_one rfl 2 (.tmp 24) rfl (R4) 1 rfl 70 #[.int .i64 P, .int .i64 S, .int .i64 R, .slice (aD L2 p) N N] (0, 0) (HL5.out.get (.head _)) (.int .i64 S) rfl _ Try.underlying2 rfl (by kernel_rfl) ?_))
  refine ((HSF _).out).mono ?_
  rintro e w' ⟨rfl, rfl⟩
  by_cases hC0 : C = 0
  · have HE := Lib.hid (hE1 hC0)
    have HC := Lib.hid hC0
    have hq : (C != 0) = false := by simp [hC0]
    clear hC0 hC3 hC4 hE0 hE1 hSz hSn hIn HSF
    go_wp2_with (first
      | (refine wpList_load_one rfl 68 (.tmp 31) rfl (R4) 3 rfl 70 #[.int .i64 P, .int .i64 S, .int .i64 R, .slice (aD L2 p) N N] (0, 0) (HL5.out.get (.head _)) (.slice (aD L2 p) N N) rfl _ Try.underlying68 rfl (by kernel_rfl) ?_))
    obtain ⟨wd, ewd⟩ : ∃ x, w5 = x := ⟨_, rfl⟩
    have HFl := Lib.hid (HL5.out.at (.head _)).ins
    have HRR0 := Lib.hid (HL5.out.get (.tail _ (.head _)))
    have HBp := Lib.hid HL5.out.below
    have geRR := HL5.out.ge (.tail _ (.head _))
    have lRR := HL5.out.lt (.tail _ (.head _))
    rw [ewd] at HFl HRR0 HBp lRR ⊢
    clear HL1 HL2 HL3 HL4 HL5
    clear ewd
    go_loopw [8, 34] (fun v i wr => ∃ (k : Nat) (V : Value), i = .int .i64 (k : Int) ∧ V = v ∧ k ≤ N ∧ OwnIn vlL 2 142 wd.heap.size wr.heap.size wr V (decF s (F.take k)) ∧ Below wd.heap.size wd wr) (fun _ i _ => N - (intOf i).toNat)
    case atStart => exact ⟨0, _, rfl, rfl, by omega, OwnIn.none _, Below.refl _ _⟩
    case round =>
      obtain ⟨k, V, rfl, rfl, hk, hown, hb⟩ := hrel
      have HO := Lib.hid hown
      clear hown
      have HRR := Lib.hid ((hb.block _ lRR).trans HRR0.out)
      by_cases hkn : k < N
      · have hi1 : (0 : Int) ≤ (k : Int) := by omega
        have hi2 : (k : Int) < (N : Int) := by omega
        have hkF : k < F.length := by have := HNl.out; omega
        obtain ⟨b, o, FA, hlt, hc⟩ := HFl.out.at (by omega)
        rw [FA]
        have lf : b < wr.heap.size := Nat.lt_of_lt_of_le hlt hb.size
        have HCf := Lib.hid (fun j v hv => (hb.cell (p := ⟨b, _, none⟩) hlt).trans (hc k _ (fdAt_some hkF) j v hv))
        have HX := Lib.hid (decF_take (s := s) hkF)
        have hlen5 : (decF s (F.take k)).length ≤ 5 := by rw [decF_len, List.length_take]; omega
        have HG := fun W => Lib.hid (implFieldGet_any s (fdAt F k).a (fdAt F k).w (fdAt F k).g W hs)
        clear hc
        unfold tellF at HX
        generalize decF s (F.take k) = L at *
        generalize fdAt F k = x at *
        obtain ⟨fa, fw, fg⟩ := x
        unfold fdL at HCf
        dsimp only at *
        generalize fgetI s fa fw fg = pr at *
        obtain ⟨tk, tn⟩ := pr
        unfold fdV vlV at HG
        dsimp only at *
        obtain ⟨LO, eLO⟩ : ∃ x, wd.heap.size = x := ⟨_, rfl⟩
        obtain ⟨HI1, eHI⟩ : ∃ x, wr.heap.size = x := ⟨_, rfl⟩
        have HL1 := Lib.hid (show Lg wd wr [] [(LO, HI1, fun W => OwnIn vlL 2 142 LO HI1 W V L)] from (by
          subst eLO eHI
          exact (⟨hb, fun r hr => (by cases hr), fun n hn => (by cases hn)⟩ : Lg wd wr [] []).addNew HO.out.solid (Nat.le_refl _) hb.size (Nat.le_refl _)))
        have HLO := Lib.hid eLO
        clear eLO eHI HO
        go_wp2_with (first
          | (refine wpList_load_cells rfl 77 (.tmp 36) rfl b (o + k * 3) rfl [.int .i64 fa, .int .i64 fw, .bool fg] HCf.out _ Try.underlying77 rfl (by kernel_rfl) ?_)
          | (refine wpList_alloc_h rfl 77 rfl (.agg #[.int .i64 0, .int .i64 0, .bool false]) (by kernel_rfl) #[.int .i64 0, .int .i64 0, .bool false] rfl ?_; intro w2 R2 e2 g2 b2; have qR2_HI1 : HI1 ≤ R2 := Nat.le_trans (HL1.out.hi (.head _)).2 (Nat.le_of_eq e2); have HL2 := Lib.hid (show Lg wd w2 [(R2, #[.int .i64 0, .int .i64 0, .bool false], 77)] [(LO, HI1, fun W => OwnIn vlL 2 142 LO HI1 W V L)] from HL1.out.box e2 g2 b2); clear g2 b2 e2)
          | (refine wpList_put_at rfl 77 (.tmp 10) (.tmp 37) rfl rfl (R2) 0 rfl (.agg #[.int .i64 fa, .int .i64 fw, .bool fg]) rfl #[.int .i64 fa, .int .i64 fw, .bool fg] rfl 77 #[.int .i64 0, .int .i64 0, .bool false] #[.int .i64 fa, .int .i64 fw, .bool fg] (HL2.out.get (.head _)) (by kernel_rfl) (by kernel_rfl) (by kernel_rfl) (by kernel_rfl) ?_; intro w3 g3 o3; have HL3 := Lib.hid (show Lg wd w3 [(R2, #[.int .i64 fa, .int .i64 fw, .bool fg], 77)] [(LO, HI1, fun W => OwnIn vlL 2 142 LO HI1 W V L)] from HL2.out.put 0 rfl g3 o3 (fun _ h => nomatch h) (List.forall_mem_cons.2 ⟨.inl qR2_HI1, (fun _ h => nomatch h)⟩) rfl); clear g3 o3)
          | (refine wpList_load_at rfl 77 (.tmp 10) rfl (R2) 0 rfl 77 #[.int .i64 fa, .int .i64 fw, .bool fg] (0, 0) (HL3.out.get (.head _)) [.int .i64 fa, .int .i64 fw, .bool fg] rfl _ Try.underlying77 rfl (by kernel_rfl) ?_))
        refine ((HG _).out).mono ?_
        rintro e w4 ⟨rfl, h⟩
        have HL4 := Lib.hid (show Lg wd w4 [(R2, #[.int .i64 fa, .int .i64 fw, .bool fg], 77)] [(LO, HI1, fun W => OwnIn vlL 2 142 LO HI1 W V L)] from HL3.out.kept h)
        clear h
        go_wp2_with (first
          | (refine wpList_lit1 vlL_len rfl 61 (.tmp 41) rfl 142 i0 Try.underlying61 HI0.out _ hz0 hz1 ⟨tk, tn⟩ (.agg #[.int .i64 tk, .int .i64 tn]) rfl rfl (by kernel_rfl) (by decide) (by decide) ?_; intro w20 R20 e20 hin20 b20; have HR20 := Lib.hid hin20; have HL20 := Lib.hid (HL4.out.kept b20); clear e20 hin20 b20)
          | (at_builtin; refine wpList_append_rs vlL_len vlL_one rfl (.tmp 38) (.tmp 42) 61 rfl 142 i0 _ 16 Try.underlying61 HI0.out hz0 hz1 hz2 (by kernel_rfl) (by decide) LO HI1 V L rfl (HL20.out.at (.head _)) _ 1 [⟨tk, tn⟩] rfl HR20.out (by unfold maxLen; show _ + 1 ≤ _; omega) (by show (_ + 1) * 16 ≤ _; omega) (Nat.le_trans (HL20.out.hi (.head _)).1 (HL20.out.hi (.head _)).2) ?_; intro v21 w21 hown21 ho21; have HO21 := Lib.hid hown21; have HU21 := Lib.hid ho21; clear hown21 ho21))
        go_roundw
        case rel =>
          refine ⟨k + 1, _, by go_num, rfl, by omega, ?_, HU21.out.below HL20.out.below (HL20.out.lo (.head _)) HL20.out.below.size⟩
          have h := HO21.out
          rw [HX.out]
          have e := HLO.out
          subst e
          exact h
        case measure => simp [intOf]; omega
      · have HVv := Lib.hid (show F.take k = F from List.take_of_length_le (by have := HNl.out; omega))
        obtain ⟨a', cap', rfl, _, hn⟩ := HO.out.new vlL_len
        rw [HVv.out] at hn ⊢
        have HNn := Lib.hid hn
        have hbs := hb.size
        clear HO hn
        go_wp2_with (first
          | (refine wpList_put_at rfl 66 (.tmp 4) (.tmp 46) rfl rfl (R1) 0 rfl (.agg #[.slice a' (decF s F).length cap', .int .i64 0]) rfl #[.slice a' (decF s F).length cap', .int .i64 0] rfl 66 #[.slice none 0 0, .int .i64 0] #[.slice a' (decF s F).length cap', .int .i64 0] HRR.out (by kernel_rfl) (by kernel_rfl) (by kernel_rfl) (by kernel_rfl) ?_; intro wf gf of; have HGf := Lib.hid gf; have HOf := Lib.hid of; clear gf of))
        exact bodyPost_ret (results_cell_row (p := 4) (ty := 66) (by kernel_rfl) _ _ (R1) 66 _ (0, 0) _ rfl HGf.out Try.underlying66 rfl (by kernel_rfl)) rfl ⟨a', cap', by rw [HE.out, HC.out], by rw [HE.out]; exact ((HNn.out.out HOf.out (.inr (Nat.succ_le_of_lt lRR))).wide HBp.out.size HOf.out.size), HOf.out.below (HBp.out.trans (hb.mono HBp.out.size)) geRR (Nat.le_trans HBp.out.size hbs)⟩
  · have hq : (C != 0) = true := by simpa using hC0
    have HE := Lib.hid (hE0 hC0)
    clear hC3 hC4 hE0 hE1 hSz hSn hIn HSF
    go_wp2_with (first
      | (refine wpList_put_at rfl 66 (.tmp 4) (.tmp 30) rfl rfl (R1) 0 rfl (.agg #[.slice none 0 0, .int .i64 C]) rfl #[.slice none 0 0, .int .i64 C] rfl 66 #[.slice none 0 0, .int .i64 0] #[.slice none 0 0, .int .i64 C] (HL5.out.get (.tail _ (.head _))) (by kernel_rfl) (by kernel_rfl) (by kernel_rfl) (by kernel_rfl) ?_; intro w6 g6 o6; have HL6 := Lib.hid (show Lg w w6 [(R4, #[.int .i64 P, .int .i64 S, .int .i64 R, .slice (aD L2 p) N N], 70), (R1, #[.slice none 0 0, .int .i64 C], 66)] [(L2, H2, fun W => RsNew fdL 3 77 L2 H2 W (aD L2 p) F)] from HL5.out.put 1 rfl g6 o6 (List.forall_mem_cons.2 ⟨Nat.ne_of_gt qR4_R1, (fun _ h => nomatch h)⟩) (List.forall_mem_cons.2 ⟨.inr qL2_R1, (fun _ h => nomatch h)⟩) rfl); clear g6 o6))
    exact bodyPost_ret (results_cell_row (p := 4) (ty := 66) (by kernel_rfl) _ _ (R1) 66 _ (0, 0) _ rfl (HL6.out.get (.tail _ (.head _))) Try.underlying66 rfl (by kernel_rfl)) rfl ⟨none, 0, by rw [HE.out]; rfl, by rw [HE.out]; exact .inl rfl, HL6.out.below⟩
set_option maxRecDepth 100000 in
set_option maxHeartbeats 8000000 in
theorem specDecode_any (p : Int) (s : ByteArray) (w : World) (hs : s.size ≤ maxLen) :
    Calls Try.prog 46 #[.int .i64 p, .string s] w (DecOut p s w) := by
  obtain ⟨i0, hi, hz0, hz1, hz2⟩ := info_parts Dec.info
  have HI0 := Lib.hid hi
  clear hi
  unfold maxLen at hs
  have hF5 := defD_len p
  have hIn := @defD_in p
  have hS := defD_s p
  have HD := fun W => Lib.hid (specDefOf_any p W)
  unfold DefOut at HD
  unfold DecOut
  generalize defD p = d at *
  obtain ⟨P, S, R, F⟩ := d
  dsimp only at *
  obtain ⟨there, hth⟩ : ∃ t, decide (ixD p < 6) = t := ⟨_, rfl⟩
  rw [hth]
  have hSz : there = true → S = 8 ∨ S = 14 := fun h => hS.1 (of_decide_eq_true (hth.trans h))
  have hSn : there = false → S = 0 := fun h => (hS.2 (of_decide_eq_false (hth.trans h))).1
  clear hth hS
  obtain ⟨C, hC⟩ : ∃ C, decC there S s = C := ⟨_, rfl⟩
  obtain ⟨E, hE⟩ : ∃ E, decV there S F s = E := ⟨_, rfl⟩
  rw [hC, hE]
  have hE0 : C ≠ 0 → E = [] := fun h => hE.symm.trans (if_neg (by rw [hC]; exact h))
  have hE1 : C = 0 → E = decF s F := fun h => hE.symm.trans (if_pos (by rw [hC]; exact h))
  clear hE
  obtain ⟨N, hN⟩ : ∃ N, F.length = N := ⟨_, rfl⟩
  have HNl := Lib.hid hN
  rw [hN] at HD hF5 hIn
  clear hN
  by_cases hbig : 8000 < s.size
  · have hd : decide (8000 < (s.size : Int)) = true := decide_eq_true (by omega)
    have hC2 : C = 2 := hC.symm.trans (if_pos hbig)
    have HC := Lib.hid hC2
    have HE := Lib.hid (hE0 (by rw [hC2]; decide))
    clear hC hC2 hE0 hE1 hSz hSn hIn HD
    go_enter Try.func46, Try.ntmps46
    go_wp2_with (first
      | (refine wpList_alloc_h rfl 66 rfl (.agg #[.slice none 0 0, .int .i64 0]) (by kernel_rfl) #[.slice none 0 0, .int .i64 0] rfl ?_; intro w1 R1 e1 g1 b1; have HL1 := Lib.hid (show Lg w w1 [(R1, #[.slice none 0 0, .int .i64 0], 66)] [] from (Lg.first w).box e1 g1 b1); clear g1 b1 e1)
      | (refine wpList_put_at rfl 66 (.tmp 4) (.tmp 11) rfl rfl (R1) 0 rfl (.agg #[.slice none 0 0, .int .i64 2]) rfl #[.slice none 0 0, .int .i64 2] rfl 66 #[.slice none 0 0, .int .i64 0] #[.slice none 0 0, .int .i64 2] (HL1.out.get (.head _)) (by kernel_rfl) (by kernel_rfl) (by kernel_rfl) (by kernel_rfl) ?_; intro w2 g2 o2; have HL2 := Lib.hid (show Lg w w2 [(R1, #[.slice none 0 0, .int .i64 2], 66)] [] from HL1.out.put 0 rfl g2 o2 (fun _ h => nomatch h) (fun _ h => nomatch h) rfl); clear g2 o2))
    exact bodyPost_ret (results_cell_row (p := 4) (ty := 66) (by kernel_rfl) _ _ (R1) 66 _ (0, 0) _ rfl (HL2.out.get (.head _)) Try.underlying66 rfl (by kernel_rfl)) rfl ⟨none, 0, by rw [HE.out, HC.out]; rfl, by rw [HE.out]; exact .inl rfl, HL2.out.below⟩
  have hd : decide (8000 < (s.size : Int)) = false := decide_eq_false (by omega)
  have hC3 : C = if there then sizeC s.size S else 6 := hC.symm.trans (if_neg hbig)
  clear hC
  go_enter Try.func46, Try.ntmps46
  go_wp2_with (first
    | (refine wpList_alloc_h rfl 66 rfl (.agg #[.slice none 0 0, .int .i64 0]) (by kernel_rfl) #[.slice none 0 0, .int .i64 0] rfl ?_; intro w1 R1 e1 g1 b1; have HL1 := Lib.hid (show Lg w w1 [(R1, #[.slice none 0 0, .int .i64 0], 66)] [] from (Lg.first w).box e1 g1 b1); clear g1 b1 e1))
  refine ((HD _).out).mono ?_
  rintro e w2 ⟨a, rfl, hn, h⟩
  obtain ⟨L2, e2⟩ : ∃ x, w1.heap.size = x := ⟨_, rfl⟩
  obtain ⟨H2, f2⟩ : ∃ x, w2.heap.size = x := ⟨_, rfl⟩
  have qL2_R1 : R1 < L2 := Nat.lt_of_lt_of_eq (HL1.out.lt (.head _)) e2
  have qH2_L2 : L2 ≤ H2 := (by rw [← e2, ← f2]; exact h.size)
  have HL2 := Lib.hid (show Lg w w2 [(R1, #[.slice none 0 0, .int .i64 0], 66)] [(L2, H2, fun W => RsNew fdL 3 77 L2 H2 W a F)] from HL1.out.made e2 f2 h (by rw [← e2, ← f2]; exact hn.solid))
  clear h hn e2 f2
  rcases there with _ | _
  · have HC := Lib.hid (show C = 6 from hC3)
    have HE := Lib.hid (hE0 (by rw [HC.out]; decide))
    have hs0 := hSn rfl
    have q0 : (S == 0) = true := by rw [hs0]; rfl
    clear hs0 hC3 hE0 hE1 hSz hSn hIn
    go_wp2_with (first
      | (refine wpList_alloc_h rfl 70 rfl (.agg #[.int .i64 0, .int .i64 0, .int .i64 0, .slice none 0 0]) (by kernel_rfl) #[.int .i64 0, .int .i64 0, .int .i64 0, .slice none 0 0] rfl ?_; intro w3 R3 e3 g3 b3; have qR3_R1 : R1 < R3 := Nat.lt_of_lt_of_eq (HL2.out.lt (.head _)) e3; have qR3_H2 : H2 ≤ R3 := Nat.le_trans (HL2.out.hi (.head _)).2 (Nat.le_of_eq e3); have HL3 := Lib.hid (show Lg w w3 [(R3, #[.int .i64 0, .int .i64 0, .int .i64 0, .slice none 0 0], 70), (R1, #[.slice none 0 0, .int .i64 0], 66)] [(L2, H2, fun W => RsNew fdL 3 77 L2 H2 W a F)] from HL2.out.box e3 g3 b3); clear g3 b3 e3)
      | (refine wpList_put_at rfl 70 (.tmp 5) (.tmp 13) rfl rfl (R3) 0 rfl (.agg #[.int .i64 P, .int .i64 S, .int .i64 R, .slice a N N]) rfl #[.int .i64 P, .int .i64 S, .int .i64 R, .slice a N N] rfl 70 #[.int .i64 0, .int .i64 0, .int .i64 0, .slice none 0 0] #[.int .i64 P, .int .i64 S, .int .i64 R, .slice a N N] (HL3.out.get (.head _)) (by kernel_rfl) (by kernel_rfl) (by kernel_rfl) (by kernel_rfl) ?_; intro w4 g4 o4; have HL4 := Lib.hid (show Lg w w4 [(R3, #[.int .i64 P, .int .i64 S, .int .i64 R, .slice a N N], 70), (R1, #[.slice none 0 0, .int .i64 0], 66)] [(L2, H2, fun W => RsNew fdL 3 77 L2 H2 W a F)] from HL3.out.put 0 rfl g4 o4 (List.forall_mem_cons.2 ⟨Nat.ne_of_lt qR3_R1, (fun _ h => nomatch h)⟩) (List.forall_mem_cons.2 ⟨.inl qR3_H2, (fun _ h => nomatch h)⟩) rfl); clear g4 o4)
      | (refine wpList_load_one rfl 2 (.tmp 15) rfl (R3) 1 rfl 70 #[.int .i64 P, .int .i64 S, .int .i64 R, .slice a N N] (0, 0) (HL4.out.get (.head _)) (.int .i64 S) rfl _ Try.underlying2 rfl (by kernel_rfl) ?_)
      | (refine wpList_put_at rfl 66 (.tmp 4) (.tmp 18) rfl rfl (R1) 0 rfl (.agg #[.slice none 0 0, .int .i64 6]) rfl #[.slice none 0 0, .int .i64 6] rfl 66 #[.slice none 0 0, .int .i64 0] #[.slice none 0 0, .int .i64 6] (HL4.out.get (.tail _ (.head _))) (by kernel_rfl) (by kernel_rfl) (by kernel_rfl) (by kernel_rfl) ?_; intro w5 g5 o5; have HL5 := Lib.hid (show Lg w w5 [(R3, #[.int .i64 P, .int .i64 S, .int .i64 R, .slice a N N], 70), (R1, #[.slice none 0 0, .int .i64 6], 66)] [(L2, H2, fun W => RsNew fdL 3 77 L2 H2 W a F)] from HL4.out.put 1 rfl g5 o5 (List.forall_mem_cons.2 ⟨Nat.ne_of_gt qR3_R1, (fun _ h => nomatch h)⟩) (List.forall_mem_cons.2 ⟨.inr qL2_R1, (fun _ h => nomatch h)⟩) rfl); clear g5 o5))
    exact bodyPost_ret (results_cell_row (p := 4) (ty := 66) (by kernel_rfl) _ _ (R1) 66 _ (0, 0) _ rfl (HL5.out.get (.tail _ (.head _))) Try.underlying66 rfl (by kernel_rfl)) rfl ⟨none, 0, by rw [HE.out, HC.out]; rfl, by rw [HE.out]; exact .inl rfl, HL5.out.below⟩
  have hC4 : C = sizeC s.size S := hC3
  have q0 : (S == 0) = false := by rcases hSz rfl with h | h <;> rw [h] <;> rfl
  unfold sizeC at hC4
  by_cases h1 : (s.size : Int) < S
  · rw [if_pos h1] at hC4
    have HC := Lib.hid hC4
    have HE := Lib.hid (hE0 (by rw [hC4]; decide))
    have q1 : decide ((s.size : Int) < S) = true := decide_eq_true h1
    clear hC3 hC4 hE0 hE1 hSz hSn hIn h1
    go_wp2_with (first
      | (refine wpList_alloc_h rfl 70 rfl (.agg #[.int .i64 0, .int .i64 0, .int .i64 0, .slice none 0 0]) (by kernel_rfl) #[.int .i64 0, .int .i64 0, .int .i64 0, .slice none 0 0] rfl ?_; intro w3 R3 e3 g3 b3; have qR3_R1 : R1 < R3 := Nat.lt_of_lt_of_eq (HL2.out.lt (.head _)) e3; have qR3_H2 : H2 ≤ R3 := Nat.le_trans (HL2.out.hi (.head _)).2 (Nat.le_of_eq e3); have HL3 := Lib.hid (show Lg w w3 [(R3, #[.int .i64 0, .int .i64 0, .int .i64 0, .slice none 0 0], 70), (R1, #[.slice none 0 0, .int .i64 0], 66)] [(L2, H2, fun W => RsNew fdL 3 77 L2 H2 W a F)] from HL2.out.box e3 g3 b3); clear g3 b3 e3)
      | (refine wpList_put_at rfl 70 (.tmp 5) (.tmp 13) rfl rfl (R3) 0 rfl (.agg #[.int .i64 P, .int .i64 S, .int .i64 R, .slice a N N]) rfl #[.int .i64 P, .int .i64 S, .int .i64 R, .slice a N N] rfl 70 #[.int .i64 0, .int .i64 0, .int .i64 0, .slice none 0 0] #[.int .i64 P, .int .i64 S, .int .i64 R, .slice a N N] (HL3.out.get (.head _)) (by kernel_rfl) (by kernel_rfl) (by kernel_rfl) (by kernel_rfl) ?_; intro w4 g4 o4; have HL4 := Lib.hid (show Lg w w4 [(R3, #[.int .i64 P, .int .i64 S, .int .i64 R, .slice a N N], 70), (R1, #[.slice none 0 0, .int .i64 0], 66)] [(L2, H2, fun W => RsNew fdL 3 77 L2 H2 W a F)] from HL3.out.put 0 rfl g4 o4 (List.forall_mem_cons.2 ⟨Nat.ne_of_lt qR3_R1, (fun _ h => nomatch h)⟩) (List.forall_mem_cons.2 ⟨.inl qR3_H2, (fun _ h => nomatch h)⟩) rfl); clear g4 o4)
      | (refine wpList_load_one rfl 2 (.tmp 15) rfl (R3) 1 rfl 70 #[.int .i64 P, .int .i64 S, .int .i64 R, .slice a N N] (0, 0) (HL4.out.get (.head _)) (.int .i64 S) rfl _ Try.underlying2 rfl (by kernel_rfl) ?_)
      | (refine wpList_load_one rfl 2 (.tmp 22) rfl (R3) 1 rfl 70 #[.int .i64 P, .int .i64 S, .int .i64 R, .slice a N N] (0, 0) (HL4.out.get (.head _)) (.int .i64 S) rfl _ Try.underlying2 rfl (by kernel_rfl) ?_)
      | (refine wpList_put_at rfl 66 (.tmp 4) (.tmp 25) rfl rfl (R1) 0 rfl (.agg #[.slice none 0 0, .int .i64 4]) rfl #[.slice none 0 0, .int .i64 4] rfl 66 #[.slice none 0 0, .int .i64 0] #[.slice none 0 0, .int .i64 4] (HL4.out.get (.tail _ (.head _))) (by kernel_rfl) (by kernel_rfl) (by kernel_rfl) (by kernel_rfl) ?_; intro w5 g5 o5; have HL5 := Lib.hid (show Lg w w5 [(R3, #[.int .i64 P, .int .i64 S, .int .i64 R, .slice a N N], 70), (R1, #[.slice none 0 0, .int .i64 4], 66)] [(L2, H2, fun W => RsNew fdL 3 77 L2 H2 W a F)] from HL4.out.put 1 rfl g5 o5 (List.forall_mem_cons.2 ⟨Nat.ne_of_gt qR3_R1, (fun _ h => nomatch h)⟩) (List.forall_mem_cons.2 ⟨.inr qL2_R1, (fun _ h => nomatch h)⟩) rfl); clear g5 o5))
    exact bodyPost_ret (results_cell_row (p := 4) (ty := 66) (by kernel_rfl) _ _ (R1) 66 _ (0, 0) _ rfl (HL5.out.get (.tail _ (.head _))) Try.underlying66 rfl (by kernel_rfl)) rfl ⟨none, 0, by rw [HE.out, HC.out]; rfl, by rw [HE.out]; exact .inl rfl, HL5.out.below⟩
  rw [if_neg h1] at hC4
  have q1 : decide ((s.size : Int) < S) = false := decide_eq_false h1
  by_cases h2 : S < (s.size : Int)
  · rw [if_pos h2] at hC4
    have HC := Lib.hid hC4
    have HE := Lib.hid (hE0 (by rw [hC4]; decide))
    have q2 : decide (S < (s.size : Int)) = true := decide_eq_true h2
    clear hC3 hC4 hE0 hE1 hSz hSn hIn h1 h2
    go_wp2_with (first
      | (refine wpList_alloc_h rfl 70 rfl (.agg #[.int .i64 0, .int .i64 0, .int .i64 0, .slice none 0 0]) (by kernel_rfl) #[.int .i64 0, .int .i64 0, .int .i64 0, .slice none 0 0] rfl ?_; intro w3 R3 e3 g3 b3; have qR3_R1 : R1 < R3 := Nat.lt_of_lt_of_eq (HL2.out.lt (.head _)) e3; have qR3_H2 : H2 ≤ R3 := Nat.le_trans (HL2.out.hi (.head _)).2 (Nat.le_of_eq e3); have HL3 := Lib.hid (show Lg w w3 [(R3, #[.int .i64 0, .int .i64 0, .int .i64 0, .slice none 0 0], 70), (R1, #[.slice none 0 0, .int .i64 0], 66)] [(L2, H2, fun W => RsNew fdL 3 77 L2 H2 W a F)] from HL2.out.box e3 g3 b3); clear g3 b3 e3)
      | (refine wpList_put_at rfl 70 (.tmp 5) (.tmp 13) rfl rfl (R3) 0 rfl (.agg #[.int .i64 P, .int .i64 S, .int .i64 R, .slice a N N]) rfl #[.int .i64 P, .int .i64 S, .int .i64 R, .slice a N N] rfl 70 #[.int .i64 0, .int .i64 0, .int .i64 0, .slice none 0 0] #[.int .i64 P, .int .i64 S, .int .i64 R, .slice a N N] (HL3.out.get (.head _)) (by kernel_rfl) (by kernel_rfl) (by kernel_rfl) (by kernel_rfl) ?_; intro w4 g4 o4; have HL4 := Lib.hid (show Lg w w4 [(R3, #[.int .i64 P, .int .i64 S, .int .i64 R, .slice a N N], 70), (R1, #[.slice none 0 0, .int .i64 0], 66)] [(L2, H2, fun W => RsNew fdL 3 77 L2 H2 W a F)] from HL3.out.put 0 rfl g4 o4 (List.forall_mem_cons.2 ⟨Nat.ne_of_lt qR3_R1, (fun _ h => nomatch h)⟩) (List.forall_mem_cons.2 ⟨.inl qR3_H2, (fun _ h => nomatch h)⟩) rfl); clear g4 o4)
      | (refine wpList_load_one rfl 2 (.tmp 15) rfl (R3) 1 rfl 70 #[.int .i64 P, .int .i64 S, .int .i64 R, .slice a N N] (0, 0) (HL4.out.get (.head _)) (.int .i64 S) rfl _ Try.underlying2 rfl (by kernel_rfl) ?_)
      | (refine wpList_load_one rfl 2 (.tmp 22) rfl (R3) 1 rfl 70 #[.int .i64 P, .int .i64 S, .int .i64 R, .slice a N N] (0, 0) (HL4.out.get (.head _)) (.int .i64 S) rfl _ Try.underlying2 rfl (by kernel_rfl) ?_)
      | (refine wpList_load_one rfl 2 (.tmp 29) rfl (R3) 1 rfl 70 #[.int .i64 P, .int .i64 S, .int .i64 R, .slice a N N] (0, 0) (HL4.out.get (.head _)) (.int .i64 S) rfl _ Try.underlying2 rfl (by kernel_rfl) ?_)
      | (refine wpList_put_at rfl 66 (.tmp 4) (.tmp 32) rfl rfl (R1) 0 rfl (.agg #[.slice none 0 0, .int .i64 2]) rfl #[.slice none 0 0, .int .i64 2] rfl 66 #[.slice none 0 0, .int .i64 0] #[.slice none 0 0, .int .i64 2] (HL4.out.get (.tail _ (.head _))) (by kernel_rfl) (by kernel_rfl) (by kernel_rfl) (by kernel_rfl) ?_; intro w5 g5 o5; have HL5 := Lib.hid (show Lg w w5 [(R3, #[.int .i64 P, .int .i64 S, .int .i64 R, .slice a N N], 70), (R1, #[.slice none 0 0, .int .i64 2], 66)] [(L2, H2, fun W => RsNew fdL 3 77 L2 H2 W a F)] from HL4.out.put 1 rfl g5 o5 (List.forall_mem_cons.2 ⟨Nat.ne_of_gt qR3_R1, (fun _ h => nomatch h)⟩) (List.forall_mem_cons.2 ⟨.inr qL2_R1, (fun _ h => nomatch h)⟩) rfl); clear g5 o5))
    exact bodyPost_ret (results_cell_row (p := 4) (ty := 66) (by kernel_rfl) _ _ (R1) 66 _ (0, 0) _ rfl (HL5.out.get (.tail _ (.head _))) Try.underlying66 rfl (by kernel_rfl)) rfl ⟨none, 0, by rw [HE.out, HC.out]; rfl, by rw [HE.out]; exact .inl rfl, HL5.out.below⟩
  rw [if_neg h2] at hC4
  have q2 : decide (S < (s.size : Int)) = false := decide_eq_false h2
  have HC := Lib.hid hC4
  have HE := Lib.hid (hE1 hC4)
  have HIn := Lib.hid (fun i h => hIn (i := i) h)
  have HSs := Lib.hid (show S = (s.size : Int) by omega)
  clear hC3 hC4 hE0 hE1 hSz hSn hIn h1 h2
  go_wp2_with (first
    | (refine wpList_alloc_h rfl 70 rfl (.agg #[.int .i64 0, .int .i64 0, .int .i64 0, .slice none 0 0]) (by kernel_rfl) #[.int .i64 0, .int .i64 0, .int .i64 0, .slice none 0 0] rfl ?_; intro w3 R3 e3 g3 b3; have qR3_R1 : R1 < R3 := Nat.lt_of_lt_of_eq (HL2.out.lt (.head _)) e3; have qR3_H2 : H2 ≤ R3 := Nat.le_trans (HL2.out.hi (.head _)).2 (Nat.le_of_eq e3); have HL3 := Lib.hid (show Lg w w3 [(R3, #[.int .i64 0, .int .i64 0, .int .i64 0, .slice none 0 0], 70), (R1, #[.slice none 0 0, .int .i64 0], 66)] [(L2, H2, fun W => RsNew fdL 3 77 L2 H2 W a F)] from HL2.out.box e3 g3 b3); clear g3 b3 e3)
    | (refine wpList_put_at rfl 70 (.tmp 5) (.tmp 13) rfl rfl (R3) 0 rfl (.agg #[.int .i64 P, .int .i64 S, .int .i64 R, .slice a N N]) rfl #[.int .i64 P, .int .i64 S, .int .i64 R, .slice a N N] rfl 70 #[.int .i64 0, .int .i64 0, .int .i64 0, .slice none 0 0] #[.int .i64 P, .int .i64 S, .int .i64 R, .slice a N N] (HL3.out.get (.head _)) (by kernel_rfl) (by kernel_rfl) (by kernel_rfl) (by kernel_rfl) ?_; intro w4 g4 o4; have HL4 := Lib.hid (show Lg w w4 [(R3, #[.int .i64 P, .int .i64 S, .int .i64 R, .slice a N N], 70), (R1, #[.slice none 0 0, .int .i64 0], 66)] [(L2, H2, fun W => RsNew fdL 3 77 L2 H2 W a F)] from HL3.out.put 0 rfl g4 o4 (List.forall_mem_cons.2 ⟨Nat.ne_of_lt qR3_R1, (fun _ h => nomatch h)⟩) (List.forall_mem_cons.2 ⟨.inl qR3_H2, (fun _ h => nomatch h)⟩) rfl); clear g4 o4)
    | (refine wpList_load_one rfl 2 (.tmp 15) rfl (R3) 1 rfl 70 #[.int .i64 P, .int .i64 S, .int .i64 R, .slice a N N] (0, 0) (HL4.out.get (.head _)) (.int .i64 S) rfl _ Try.underlying2 rfl (by kernel_rfl) ?_)
    | (refine wpList_load_one rfl 2 (.tmp 22) rfl (R3) 1 rfl 70 #[.int .i64 P, .int .i64 S, .int .i64 R, .slice a N N] (0, 0) (HL4.out.get (.head _)) (.int .i64 S) rfl _ Try.underlying2 rfl (by kernel_rfl) ?_)
    | (refine wpList_load_one rfl 2 (.tmp 29) rfl (R3) 1 rfl 70 #[.int .i64 P, .int .i64 S, .int .i64 R, .slice a N N] (0, 0) (HL4.out.get (.head _)) (.int .i64 S) rfl _ Try.underlying2 rfl (by kernel_rfl) ?_)
    | (refine wpList_lit0 vlL 2 rfl 61 rfl 142 i0 Try.underlying61 HI0.out ?_; intro wl0 G0 eg0 hown0 b0; subst eg0; have HO0 := Lib.hid (show OwnIn vlL 2 142 w4.heap.size wl0.heap.size wl0 _ (decF s (F.take 0)) from hown0); have HB0 := Lib.hid b0; clear hown0 b0))
  have HFl := Lib.hid (HL4.out.at (.head _)).ins
  have HRR0 := Lib.hid (HL4.out.get (.tail _ (.head _)))
  have HBp := Lib.hid HL4.out.below
  have geRR := HL4.out.ge (.tail _ (.head _))
  have HR50 := Lib.hid (HL4.out.get (.head _))
  have lRR := HL4.out.lt (.tail _ (.head _))
  clear HL1 HL2 HL3 HL4
  go_loopw [6, 7] (fun v i wr => ∃ (k : Nat) (V : Value), i = .int .i64 (k : Int) ∧ V = v ∧ k ≤ N ∧ OwnIn vlL 2 142 w4.heap.size wr.heap.size wr V (decF s (F.take k)) ∧ Below w4.heap.size w4 wr) (fun _ i _ => N - (intOf i).toNat)
  case atStart => exact ⟨0, _, rfl, rfl, by omega, HO0.out, HB0.out⟩
  case round =>
    obtain ⟨k, V, rfl, rfl, hk, hown, hb⟩ := hrel
    have HO := Lib.hid hown
    clear hown
    have HRR := Lib.hid ((hb.block _ lRR).trans HRR0.out)
    by_cases hkn : k < N
    · have hi1 : (0 : Int) ≤ (k : Int) := by omega
      have hi2 : (k : Int) < (N : Int) := by omega
      have hkF : k < F.length := by have := HNl.out; omega
      obtain ⟨b, o, rfl, hlt, hc⟩ := HFl.out.at (by omega)
      have HR5 := Lib.hid ((hb.block _ (Array.getElem?_eq_some_iff.1 HR50.out).1).trans HR50.out)
      have lf : b < wr.heap.size := Nat.lt_of_lt_of_le hlt hb.size
      have HCf := Lib.hid (fun j v hv => (hb.cell (p := ⟨b, _, none⟩) hlt).trans (hc k _ (fdAt_some hkF) j v hv))
      have HX := Lib.hid (decF_take (s := s) hkF)
      have hlen5 : (decF s (F.take k)).length ≤ 5 := by rw [decF_len, List.length_take]; omega
      have HG : ∀ W, Hid (Calls Try.prog 129 #[.string s, fdV (fdAt F k).a (fdAt F k).w (fdAt F k).g] W fun e W' => e = .returned (vlV (fgetI s (fdAt F k).a (fdAt F k).w (fdAt F k).g).1 (fgetI s (fdAt F k).a (fdAt F k).w (fdAt F k).g).2) ∧ Below W.heap.size W W') := fun W => Lib.hid (by
        obtain ⟨A, B, ha, hbw, q1, q2, q3, q4⟩ := HIn.out k hkn
        have hSs := HSs.out
        rw [ha, hbw]
        have h1 : hasB s (A : Int) (B : Int) = true := hasB_lit q1 q2 q3 (by omega)
        rw [fget_on (by omega) h1]
        exact l07Value_any s A B (fdAt F k).g W (by omega) q1 q2 q3 (by omega))
      clear hc
      unfold tellF at HX
      generalize decF s (F.take k) = L at *
      generalize fdAt F k = x at *
      obtain ⟨fa, fw, fg⟩ := x
      unfold fdL at HCf
      dsimp only at *
      generalize fgetI s fa fw fg = pr at *
      obtain ⟨tk, tn⟩ := pr
      unfold fdV vlV at HG
      dsimp only at *
      obtain ⟨LO, eLO⟩ : ∃ x, w4.heap.size = x := ⟨_, rfl⟩
      obtain ⟨HI1, eHI⟩ : ∃ x, wr.heap.size = x := ⟨_, rfl⟩
      have HL1 := Lib.hid (show Lg w4 wr [] [(LO, HI1, fun W => OwnIn vlL 2 142 LO HI1 W V L)] from (by
        subst eLO eHI
        exact (⟨hb, fun r hr => (by cases hr), fun n hn => (by cases hn)⟩ : Lg w4 wr [] []).addNew HO.out.solid (Nat.le_refl _) hb.size (Nat.le_refl _)))
      have HLO := Lib.hid eLO
      clear eLO eHI HO
      go_wp2_with (first
        | (refine wpList_load_one rfl 68 (.tmp 35) rfl (R3) 3 rfl 70 #[.int .i64 P, .int .i64 S, .int .i64 R, .slice (some ⟨b, o, none⟩) N N] (0, 0) HR5.out (.slice (some ⟨b, o, none⟩) N N) rfl _ Try.underlying68 rfl (by kernel_rfl) ?_)
        | (refine wpList_load_one rfl 68 (.tmp 43) rfl (R3) 3 rfl 70 #[.int .i64 P, .int .i64 S, .int .i64 R, .slice (some ⟨b, o, none⟩) N N] (0, 0) HR5.out (.slice (some ⟨b, o, none⟩) N N) rfl _ Try.underlying68 rfl (by kernel_rfl) ?_)
        | (refine wpList_load_cells rfl 77 (.tmp 46) rfl b (o + k * 3) rfl [.int .i64 fa, .int .i64 fw, .bool fg] HCf.out _ Try.underlying77 rfl (by kernel_rfl) ?_))
      refine ((HG _).out).mono ?_
      rintro e w2 ⟨rfl, h⟩
      have HL2 := Lib.hid (show Lg w4 w2 [] [(LO, HI1, fun W => OwnIn vlL 2 142 LO HI1 W V L)] from HL1.out.kept h)
      clear h
      go_wp2_with (first
        | (refine wpList_lit1 vlL_len rfl 61 (.tmp 48) rfl 142 i0 Try.underlying61 HI0.out _ hz0 hz1 ⟨tk, tn⟩ (.agg #[.int .i64 tk, .int .i64 tn]) rfl rfl (by kernel_rfl) (by decide) (by decide) ?_; intro w20 R20 e20 hin20 b20; have HR20 := Lib.hid hin20; have HL20 := Lib.hid (HL2.out.kept b20); clear e20 hin20 b20)
        | (at_builtin; refine wpList_append_rs vlL_len vlL_one rfl (.tmp 41) (.tmp 49) 61 rfl 142 i0 _ 16 Try.underlying61 HI0.out hz0 hz1 hz2 (by kernel_rfl) (by decide) LO HI1 V L rfl (HL20.out.at (.head _)) _ 1 [⟨tk, tn⟩] rfl HR20.out (by unfold maxLen; show _ + 1 ≤ _; omega) (by show (_ + 1) * 16 ≤ _; omega) (Nat.le_trans (HL20.out.hi (.head _)).1 (HL20.out.hi (.head _)).2) ?_; intro v21 w21 hown21 ho21; have HO21 := Lib.hid hown21; have HU21 := Lib.hid ho21; clear hown21 ho21))
      go_roundw
      case rel =>
        refine ⟨k + 1, _, by go_num, rfl, by omega, ?_, HU21.out.below HL20.out.below (HL20.out.lo (.head _)) HL20.out.below.size⟩
        have h := HO21.out
        rw [HX.out]
        have e := HLO.out
        subst e
        exact h
      case measure => simp [intOf]; omega
    · have HVv := Lib.hid (show F.take k = F from List.take_of_length_le (by have := HNl.out; omega))
      obtain ⟨a', cap', rfl, _, hn⟩ := HO.out.new vlL_len
      rw [HVv.out] at hn ⊢
      have HNn := Lib.hid hn
      have hbs := hb.size
      clear HO hn
      have HR5 := Lib.hid ((hb.block _ (Array.getElem?_eq_some_iff.1 HR50.out).1).trans HR50.out)
      go_wp2_with (first
        | (refine wpList_load_one rfl 68 (.tmp 35) rfl (R3) 3 rfl 70 #[.int .i64 P, .int .i64 S, .int .i64 R, .slice a N N] (0, 0) HR5.out (.slice a N N) rfl _ Try.underlying68 rfl (by kernel_rfl) ?_)
        | (refine wpList_put_at rfl 66 (.tmp 4) (.tmp 52) rfl rfl (R1) 0 rfl (.agg #[.slice a' (decF s F).length cap', .int .i64 0]) rfl #[.slice a' (decF s F).length cap', .int .i64 0] rfl 66 #[.slice none 0 0, .int .i64 0] #[.slice a' (decF s F).length cap', .int .i64 0] HRR.out (by kernel_rfl) (by kernel_rfl) (by kernel_rfl) (by kernel_rfl) ?_; intro wf gf of; have HGf := Lib.hid gf; have HOf := Lib.hid of; clear gf of))
      exact bodyPost_ret (results_cell_row (p := 4) (ty := 66) (by kernel_rfl) _ _ (R1) 66 _ (0, 0) _ rfl HGf.out Try.underlying66 rfl (by kernel_rfl)) rfl ⟨a', cap', by rw [HE.out, HC.out], by rw [HE.out]; exact ((HNn.out.out HOf.out (.inr (Nat.succ_le_of_lt lRR))).wide HBp.out.size HOf.out.size), HOf.out.below (HBp.out.trans (hb.mono HBp.out.size)) geRR (Nat.le_trans HBp.out.size hbs)⟩
end Go.Proofs.Ytanijfmfjabmfaa
