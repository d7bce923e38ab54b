/- The laws' own markSessionS and heldSessionS: every cell of a table that a call made is written, and read again. Nothing else that was there is written. -/
import Derived.Test.YtioldepgoodipaaGreatSesTick
import Derived.Test.YtioldepgoodipaaGreatMark
namespace Go.Proofs.YtioldepgoodipaaGreat
open Go.RowKit
set_option linter.unusedVariables false

/-- The marks from q on. -/
def markSe (q : Nat) : Se := ⟨((q : Nat) : Int), ((q + 1 : Nat) : Int), ((q + 2 : Nat) : Int), ((q + 3 : Nat) : Int), ((q + 4 : Nat) : Int), markT (q + 5), ((q + 6 : Nat) : Int)⟩
/-- n of them from k on. -/
def marksSe (k n : Nat) : List Se := (List.range n).map fun i => markSe (k + 7 * i)
theorem marksSe_length (k n : Nat) : (marksSe k n).length = n := by simp [marksSe]
theorem marksSe_at {k n i : Nat} {x : Se} (h : (marksSe k n)[i]? = some x) : i < n ∧ x = markSe (k + 7 * i) := by
  unfold marksSe at h
  rw [List.getElem?_map] at h
  obtain ⟨j, hj, rfl⟩ := Option.map_eq_some_iff.1 h
  obtain ⟨hi, rfl⟩ := List.getElem?_eq_some_iff.1 hj
  have hi' : i < n := by simpa using hi
  simp [hi']
theorem marksSe_get {k n i : Nat} (h : i < n) : (marksSe k n)[i]? = some (markSe (k + 7 * i)) := by
  unfold marksSe
  rw [List.getElem?_map, List.getElem?_range h]
  rfl

set_option maxRecDepth 100000 in
set_option maxHeartbeats 8000000 in
theorem markSessionS_any {lo hi : Nat} (a : Option Addr) (cap : Nat) (l : List Se) (k : Nat) (w : World) (h : RsNew seL 7 159 lo hi w a l) (hk0 : 0 < k) (hk : k + 7 * l.length ≤ 30000000) :
    Calls Tryz.prog 59 #[.slice a l.length cap, .int .i64 (k : Int)] w fun e w' => e = .returned (.int .i64 ((k + 7 * l.length : Nat) : Int)) ∧ RsNew seL 7 159 lo hi w' a (marksSe k l.length) ∧ Out lo hi w w' := by
  obtain ⟨N, hN⟩ : ∃ N, l.length = N := ⟨_, rfl⟩
  have HN := Lib.hid hN
  rcases Nat.eq_zero_or_pos N with hN0 | hN0
  · rw [hN]
    subst hN0
    clear hN h
    go_enter Tryz.func59, Tryz.ntmps59
    go_wp2
    refine wp_loop_rounds 1 ?_
    rw [rounds_succ]; go_wp2
    go_ret
    exact ⟨rfl, .inl (by first | rfl | (simp [marksSe])), Out.refl _ _ _⟩
  obtain ⟨b, o, row0, rfl, hlo, hhi, hg0, hs0⟩ : ∃ b o row, a = some ⟨b, o, none⟩ ∧ lo ≤ b ∧ b < hi ∧ w.heap[b]? = some (.cells row 159 (0, 0)) ∧ o + N * 7 ≤ row.size := by
    rcases h with h | ⟨b, o, row, h1, h2, h3, h4, h5, h6⟩
    · rw [h] at hN
      simp at hN
      omega
    · rw [hN] at h5
      exact ⟨b, o, row, h1, h2, h3, h4, h5⟩
  have HG0 := Lib.hid hg0
  have hN8 : N ≤ 30000000 := by omega
  have HS0 := Lib.hid hs0
  rw [hN] at hk ⊢
  clear hN h hg0 hs0
  go_enter Tryz.func59, Tryz.ntmps59
  go_wp2_with fail
  go_loopw [1, 5] (fun u i wr => ∃ (m : Nat) (row : Array Value), i = .int .i64 (m : Int) ∧ u = .int .i64 ((k + 7 * m : Nat) : Int) ∧ m ≤ N ∧ Out lo hi w wr ∧ wr.heap[b]? = some (.cells row 159 (0, 0)) ∧ o + N * 7 ≤ row.size ∧
    (∀ j, j < m → ∀ c v, (seL (markSe (k + 7 * j)))[c]? = some v → row[o + j * 7 + c]? = some v)) (fun _ i _ => N - (intOf i).toNat)
  case atStart => exact ⟨0, row0, rfl, rfl, by omega, Out.refl _ _ _, HG0.out, HS0.out, fun j hj => absurd hj (by omega)⟩
  case round =>
    obtain ⟨m, row, rfl, rfl, hm, hb, hgr, hrs, hdone⟩ := hrel
    have HD := Lib.hid hdone
    have HA := Lib.hid hgr
    have HB := Lib.hid hb
    have HRS := Lib.hid hrs
    clear hdone hgr hb HG0 HS0
    by_cases hmn : m < N
    · have hi1 : (0 : Int) ≤ (m : Int) := by omega
      have hi2 : (m : Int) < (N : Int) := by omega
      have hq : k + 7 * m + 7 ≤ 30000000 := by omega
      have hroom : o + m * 7 + 7 ≤ row.size := by omega
      have HK := Lib.hid (show k + 7 * (m + 1) = k + 7 * m + 7 by omega)
      obtain ⟨q, eq⟩ : ∃ q, k + 7 * m = q := ⟨_, rfl⟩
      have hq0 : 0 < q := by omega
      have HQ := Lib.hid eq
      rw [eq] at hq HK ⊢
      clear eq
      have HM := fun W => Lib.hid (markText_any (q + 5) W (by omega) (by omega))
      have w0_ : IntKind.i64.wrap (((q : Nat) : Int) + 1) = ((q + 1 : Nat) : Int) := by rw [IntWalk.i64_in _ (by omega)]; omega
      have w1_ : IntKind.i64.wrap (((q + 1 : Nat) : Int) + 1) = ((q + 2 : Nat) : Int) := by rw [IntWalk.i64_in _ (by omega)]; omega
      have w2_ : IntKind.i64.wrap (((q + 2 : Nat) : Int) + 1) = ((q + 3 : Nat) : Int) := by rw [IntWalk.i64_in _ (by omega)]; omega
      have w3_ : IntKind.i64.wrap (((q + 3 : Nat) : Int) + 1) = ((q + 4 : Nat) : Int) := by rw [IntWalk.i64_in _ (by omega)]; omega
      have w4_ : IntKind.i64.wrap (((q + 4 : Nat) : Int) + 1) = ((q + 5 : Nat) : Int) := by rw [IntWalk.i64_in _ (by omega)]; omega
      have w5_ : IntKind.i64.wrap (((q + 5 : Nat) : Int) + 1) = ((q + 6 : Nat) : Int) := by rw [IntWalk.i64_in _ (by omega)]; omega
      have w6_ : IntKind.i64.wrap (((q + 6 : Nat) : Int) + 1) = ((q + 7 : Nat) : Int) := by rw [IntWalk.i64_in _ (by omega)]; omega
      generalize e1_ : q + 1 = q1 at *
      generalize e2_ : q + 2 = q2 at *
      generalize e3_ : q + 3 = q3 at *
      generalize e4_ : q + 4 = q4 at *
      generalize e5_ : q + 5 = q5 at *
      generalize e6_ : q + 6 = q6 at *
      generalize e7_ : q + 7 = q7 at *
      obtain ⟨tx, etx⟩ : ∃ tx, markT q5 = tx := ⟨_, rfl⟩
      rw [etx] at HM
      obtain ⟨p0, ep0⟩ : ∃ p, o + m * 7 = p := ⟨_, rfl⟩
      have HP := Lib.hid ep0
      obtain ⟨r1, er1⟩ : ∃ r, setAll row (p0) [.int .i64 (q : Int)] = r := ⟨_, rfl⟩
      have sr1 : r1.size = row.size := by rw [← er1, setAll_size]
      obtain ⟨r2, er2⟩ : ∃ r, setAll r1 (p0 + 1) [.int .i64 (q1 : Int)] = r := ⟨_, rfl⟩
      have sr2 : r2.size = row.size := by rw [← er2, setAll_size, sr1]
      obtain ⟨r3, er3⟩ : ∃ r, setAll r2 (p0 + 2) [.int .i64 (q2 : Int)] = r := ⟨_, rfl⟩
      have sr3 : r3.size = row.size := by rw [← er3, setAll_size, sr2]
      obtain ⟨r4, er4⟩ : ∃ r, setAll r3 (p0 + 3) [.int .i64 (q3 : Int)] = r := ⟨_, rfl⟩
      have sr4 : r4.size = row.size := by rw [← er4, setAll_size, sr3]
      obtain ⟨r5, er5⟩ : ∃ r, setAll r4 (p0 + 4) [.int .i64 (q4 : Int)] = r := ⟨_, rfl⟩
      have sr5 : r5.size = row.size := by rw [← er5, setAll_size, sr4]
      obtain ⟨r6, er6⟩ : ∃ r, setAll r5 (p0 + 5) [.string tx] = r := ⟨_, rfl⟩
      have sr6 : r6.size = row.size := by rw [← er6, setAll_size, sr5]
      obtain ⟨r7, er7⟩ : ∃ r, setAll r6 (p0 + 6) [.int .i64 (q6 : Int)] = r := ⟨_, rfl⟩
      have sr7 : r7.size = row.size := by rw [← er7, setAll_size, sr6]
      have HER := Lib.hid (And.intro er1 (And.intro er2 (And.intro er3 (And.intro er4 (And.intro er5 (And.intro er6 er7))))))
      rw [ep0] at hroom
      have k0 : Nat.ble (p0 + 1) row.size = true := Nat.ble_eq_true_of_le (by omega)
      have k1 : Nat.ble (p0 + 1 + 1) r1.size = true := Nat.ble_eq_true_of_le (by omega)
      have k2 : Nat.ble (p0 + 2 + 1) r2.size = true := Nat.ble_eq_true_of_le (by omega)
      have k3 : Nat.ble (p0 + 3 + 1) r3.size = true := Nat.ble_eq_true_of_le (by omega)
      have k4 : Nat.ble (p0 + 4 + 1) r4.size = true := Nat.ble_eq_true_of_le (by omega)
      have k5 : Nat.ble (p0 + 5 + 1) r5.size = true := Nat.ble_eq_true_of_le (by omega)
      have k6 : Nat.ble (p0 + 6 + 1) r6.size = true := Nat.ble_eq_true_of_le (by omega)
      have hE1 := And.intro e1_ (And.intro e2_ (And.intro e3_ (And.intro e4_ (And.intro e5_ (And.intro e6_ e7_)))))
      have HE := Lib.hid hE1
      have HTX := Lib.hid etx
      clear er1 er2 er3 er4 er5 er6 er7 e1_ e2_ e3_ e4_ e5_ e6_ e7_ hE1 etx hrs hk hroom hq sr1 sr2 sr3 sr4 sr5 sr6
      clear ep0
      go_wp2_with (first
        | (refine wpList_put_at rfl 2 (.tmp 16) (.tmp 14) rfl rfl b (o + m * 7) rfl (.int .i64 (q : Int)) rfl #[.int .i64 (q : Int)] rfl 159 row r1 HA.out (by kernel_rfl) (by rw [HP.out]; exact k0) rfl (by rw [HP.out]; exact HER.out.1) ?_; intro x1 g0 o0; have HA1 := Lib.hid g0; have HB1 := Lib.hid (HB.out.trans (o0.widen hlo hhi)); clear g0 o0)
        | (refine wpList_put_at rfl 2 (.tmp 23) (.tmp 21) rfl rfl b (o + m * 7 + 1) rfl (.int .i64 (q1 : Int)) rfl #[.int .i64 (q1 : Int)] rfl 159 r1 r2 HA1.out (by kernel_rfl) (by rw [HP.out]; exact k1) rfl (by rw [HP.out]; exact HER.out.2.1) ?_; intro x2 g1 o1; have HA2 := Lib.hid g1; have HB2 := Lib.hid (HB1.out.trans (o1.widen hlo hhi)); clear g1 o1)
        | (refine wpList_put_at rfl 2 (.tmp 30) (.tmp 28) rfl rfl b (o + m * 7 + 2) rfl (.int .i64 (q2 : Int)) rfl #[.int .i64 (q2 : Int)] rfl 159 r2 r3 HA2.out (by kernel_rfl) (by rw [HP.out]; exact k2) rfl (by rw [HP.out]; exact HER.out.2.2.1) ?_; intro x3 g2 o2; have HA3 := Lib.hid g2; have HB3 := Lib.hid (HB2.out.trans (o2.widen hlo hhi)); clear g2 o2)
        | (refine wpList_put_at rfl 2 (.tmp 37) (.tmp 35) rfl rfl b (o + m * 7 + 3) rfl (.int .i64 (q3 : Int)) rfl #[.int .i64 (q3 : Int)] rfl 159 r3 r4 HA3.out (by kernel_rfl) (by rw [HP.out]; exact k3) rfl (by rw [HP.out]; exact HER.out.2.2.2.1) ?_; intro x4 g3 o3; have HA4 := Lib.hid g3; have HB4 := Lib.hid (HB3.out.trans (o3.widen hlo hhi)); clear g3 o3)
        | (refine wpList_put_at rfl 2 (.tmp 44) (.tmp 42) rfl rfl b (o + m * 7 + 4) rfl (.int .i64 (q4 : Int)) rfl #[.int .i64 (q4 : Int)] rfl 159 r4 r5 HA4.out (by kernel_rfl) (by rw [HP.out]; exact k4) rfl (by rw [HP.out]; exact HER.out.2.2.2.2.1) ?_; intro x5 g4 o4; have HA5 := Lib.hid g4; have HB5 := Lib.hid (HB4.out.trans (o4.widen hlo hhi)); clear g4 o4))
      refine (HM _).out.mono ?_
      rintro e x5b ⟨rfl, h5⟩
      have HA5b := Lib.hid ((h5.block b (Array.getElem?_eq_some_iff.1 HA5.out).1).trans HA5.out)
      have HB5b := Lib.hid (HB5.out.trans (Out.of_below h5))
      clear h5 HA HB HA1 HB1 HA2 HB2 HA3 HB3 HA4 HB4 HA5 HB5
      go_wp2_with (first
        | (refine wpList_put_at rfl 9 (.tmp 52) (.tmp 50) rfl rfl b (o + m * 7 + 5) rfl (.string tx) rfl #[.string tx] rfl 159 r5 r6 HA5b.out (by kernel_rfl) (by rw [HP.out]; exact k5) rfl (by rw [HP.out]; exact HER.out.2.2.2.2.2.1) ?_; intro x6 g5 o5; have HA6 := Lib.hid g5; have HB6 := Lib.hid (HB5b.out.trans (o5.widen hlo hhi)); clear g5 o5)
        | (refine wpList_put_at rfl 2 (.tmp 59) (.tmp 57) rfl rfl b (o + m * 7 + 6) rfl (.int .i64 (q6 : Int)) rfl #[.int .i64 (q6 : Int)] rfl 159 r6 r7 HA6.out (by kernel_rfl) (by rw [HP.out]; exact k6) rfl (by rw [HP.out]; exact HER.out.2.2.2.2.2.2) ?_; intro x7 g6 o6; have HA7 := Lib.hid g6; have HB7 := Lib.hid (HB6.out.trans (o6.widen hlo hhi)); clear g6 o6))
      go_roundw
      case rel =>
        refine ⟨m + 1, r7, by go_num, by rw [HK.out], by omega, HB7.out, HA7.out, by rw [sr7]; exact HRS.out, fun j hj c v hv => ?_⟩
        obtain ⟨E1, E2, E3, E4, E5, E6, E7⟩ := HER.out
        obtain ⟨F1, F2, F3, F4, F5, F6, F7⟩ := HE.out
        have hp := HP.out
        have hrs2 := HRS.out
        have hc7 : c < 7 := by
          have := (List.getElem?_eq_some_iff.1 hv).1
          rwa [seL_len] at this
        rcases Nat.lt_or_ge j m with h | h
        · have hlt : o + j * 7 + c < p0 := by omega
          rw [← E7, setAll_off _ _ _ _ (.inl (by omega)), ← E6, setAll_off _ _ _ _ (.inl (by omega)), ← E5, setAll_off _ _ _ _ (.inl (by omega)), ← E4, setAll_off _ _ _ _ (.inl (by omega)), ← E3, setAll_off _ _ _ _ (.inl (by omega)), ← E2, setAll_off _ _ _ _ (.inl (by omega)), ← E1, setAll_off _ _ _ _ (.inl (by omega))]
          exact HD.out j h c v hv
        · obtain rfl : j = m := by omega
          rw [HQ.out] at hv
          unfold markSe seL at hv
          dsimp only at hv
          rw [F1, F2, F3, F4, F5, F6, HTX.out] at hv
          rw [hp]
          have z : ∀ (rr : Array Value) (p : Nat) (u : Value), p < rr.size → (setAll rr p [u])[p]? = some u := fun rr p u hp => by
            have := setAll_at [u] rr p 0 u (by show p + 1 ≤ _; omega) rfl
            simpa using this
          have y : ∀ (rr : Array Value) (p p' : Nat) (u : Value), p' < p → (setAll rr p [u])[p']? = rr[p']? := fun rr p p' u hp => setAll_off _ _ _ _ (.inl hp)
          rcases c with _ | _ | _ | _ | _ | _ | _ | c
          · simp at hv
            subst hv
            rw [← E7, y _ _ _ _ (by omega), ← E6, y _ _ _ _ (by omega), ← E5, y _ _ _ _ (by omega), ← E4, y _ _ _ _ (by omega), ← E3, y _ _ _ _ (by omega), ← E2, y _ _ _ _ (by omega), ← E1]
            exact z _ _ _ (by have a0 := congrArg Array.size E1; have a1 := congrArg Array.size E2; have a2 := congrArg Array.size E3; have a3 := congrArg Array.size E4; have a4 := congrArg Array.size E5; have a5 := congrArg Array.size E6; have a6 := congrArg Array.size E7; rw [setAll_size] at a0 a1 a2 a3 a4 a5 a6; omega)
          · simp at hv
            subst hv
            rw [← E7, y _ _ _ _ (by omega), ← E6, y _ _ _ _ (by omega), ← E5, y _ _ _ _ (by omega), ← E4, y _ _ _ _ (by omega), ← E3, y _ _ _ _ (by omega), ← E2]
            exact z _ _ _ (by have a0 := congrArg Array.size E1; have a1 := congrArg Array.size E2; have a2 := congrArg Array.size E3; have a3 := congrArg Array.size E4; have a4 := congrArg Array.size E5; have a5 := congrArg Array.size E6; have a6 := congrArg Array.size E7; rw [setAll_size] at a0 a1 a2 a3 a4 a5 a6; omega)
          · simp at hv
            subst hv
            rw [← E7, y _ _ _ _ (by omega), ← E6, y _ _ _ _ (by omega), ← E5, y _ _ _ _ (by omega), ← E4, y _ _ _ _ (by omega), ← E3]
            exact z _ _ _ (by have a0 := congrArg Array.size E1; have a1 := congrArg Array.size E2; have a2 := congrArg Array.size E3; have a3 := congrArg Array.size E4; have a4 := congrArg Array.size E5; have a5 := congrArg Array.size E6; have a6 := congrArg Array.size E7; rw [setAll_size] at a0 a1 a2 a3 a4 a5 a6; omega)
          · simp at hv
            subst hv
            rw [← E7, y _ _ _ _ (by omega), ← E6, y _ _ _ _ (by omega), ← E5, y _ _ _ _ (by omega), ← E4]
            exact z _ _ _ (by have a0 := congrArg Array.size E1; have a1 := congrArg Array.size E2; have a2 := congrArg Array.size E3; have a3 := congrArg Array.size E4; have a4 := congrArg Array.size E5; have a5 := congrArg Array.size E6; have a6 := congrArg Array.size E7; rw [setAll_size] at a0 a1 a2 a3 a4 a5 a6; omega)
          · simp at hv
            subst hv
            rw [← E7, y _ _ _ _ (by omega), ← E6, y _ _ _ _ (by omega), ← E5]
            exact z _ _ _ (by have a0 := congrArg Array.size E1; have a1 := congrArg Array.size E2; have a2 := congrArg Array.size E3; have a3 := congrArg Array.size E4; have a4 := congrArg Array.size E5; have a5 := congrArg Array.size E6; have a6 := congrArg Array.size E7; rw [setAll_size] at a0 a1 a2 a3 a4 a5 a6; omega)
          · simp at hv
            subst hv
            rw [← E7, y _ _ _ _ (by omega), ← E6]
            exact z _ _ _ (by have a0 := congrArg Array.size E1; have a1 := congrArg Array.size E2; have a2 := congrArg Array.size E3; have a3 := congrArg Array.size E4; have a4 := congrArg Array.size E5; have a5 := congrArg Array.size E6; have a6 := congrArg Array.size E7; rw [setAll_size] at a0 a1 a2 a3 a4 a5 a6; omega)
          · simp at hv
            subst hv
            rw [← E7]
            exact z _ _ _ (by have a0 := congrArg Array.size E1; have a1 := congrArg Array.size E2; have a2 := congrArg Array.size E3; have a3 := congrArg Array.size E4; have a4 := congrArg Array.size E5; have a5 := congrArg Array.size E6; have a6 := congrArg Array.size E7; rw [setAll_size] at a0 a1 a2 a3 a4 a5 a6; omega)
          · omega
      case measure => simp [intOf]; omega
    · have hge : N ≤ m := by omega
      go_wp2_with fail
      go_ret
      exact ⟨by rw [show N = m by omega]; rfl, .inr ⟨b, o, row, rfl, hlo, hhi, HA.out, by rw [marksSe_length]; exact hrs, fun i x hx c v hv => by
        obtain ⟨hi, rfl⟩ := marksSe_at hx
        exact HD.out i (by omega) c v hv⟩, HB.out⟩
set_option maxRecDepth 100000 in
set_option maxHeartbeats 8000000 in
theorem heldSessionS_any {lo hi : Nat} (a : Option Addr) (cap : Nat) (N : Nat) (k : Nat) (w : World) (h : RsNew seL 7 159 lo hi w a (marksSe k N)) (hk0 : 0 < k) (hk : k + 7 * N ≤ 30000000) :
    Calls Tryz.prog 118 #[.slice a N cap, .int .i64 (k : Int)] w fun e w' => e = .returned (.int .i64 ((k + 7 * N : Nat) : Int)) ∧ Below w.heap.size w w' := by
  have HI := Lib.hid h
  have hN8 : N ≤ 30000000 := by omega
  clear h
  go_enter Tryz.func118, Tryz.ntmps118
  go_wp2_with fail
  go_loopw [1, 5] (fun u i wr => ∃ m : Nat, i = .int .i64 (m : Int) ∧ u = .int .i64 ((k + 7 * m : Nat) : Int) ∧ m ≤ N ∧ Below w.heap.size w wr) (fun _ i _ => N - (intOf i).toNat)
  case atStart => exact ⟨0, rfl, rfl, by omega, Below.refl _ _⟩
  case round =>
    obtain ⟨m, rfl, rfl, hm, hb⟩ := hrel
    by_cases hmn : m < N
    · obtain ⟨b, o, row, rfl, _, _, hg, _, hc⟩ : ∃ b o row, a = some ⟨b, o, none⟩ ∧ lo ≤ b ∧ b < hi ∧ w.heap[b]? = some (.cells row 159 (0, 0)) ∧ o + (marksSe k N).length * 7 ≤ row.size ∧ ∀ (i : Nat) x, (marksSe k N)[i]? = some x → ∀ (j : Nat) v, (seL x)[j]? = some v → row[o + i * 7 + j]? = some v := by
        rcases HI.out with h | h
        · have := marksSe_length k N
          rw [h] at this
          simp at this
          omega
        · exact h
      have hx := hc m _ (marksSe_get hmn)
      have hgw := (hb.block b (Array.getElem?_eq_some_iff.1 hg).1).trans hg
      have HG := Lib.hid hgw
      have hi1 : (0 : Int) ≤ (m : Int) := by omega
      have hi2 : (m : Int) < (N : Int) := by omega
      have HK := Lib.hid (show k + 7 * (m + 1) = k + 7 * m + 7 by omega)
      have hq : k + 7 * m + 7 ≤ 30000000 := by omega
      obtain ⟨q, eq⟩ : ∃ q, k + 7 * m = q := ⟨_, rfl⟩
      have hq0 : 0 < q := by omega
      rw [eq] at hq HK hx ⊢
      have HM := fun W => Lib.hid (markText_any (q + 5) W (by omega) (by omega))
      unfold markSe seL at hx
      dsimp only at hx
      have c0 := hx 0 _ rfl
      have c1 := hx 1 _ rfl
      have c2 := hx 2 _ rfl
      have c3 := hx 3 _ rfl
      have c4 := hx 4 _ rfl
      have c5 := hx 5 _ rfl
      have c6 := hx 6 _ rfl
      have w0_ : IntKind.i64.wrap (((q : Nat) : Int) + 1) = ((q + 1 : Nat) : Int) := by rw [IntWalk.i64_in _ (by omega)]; omega
      have w1_ : IntKind.i64.wrap (((q + 1 : Nat) : Int) + 1) = ((q + 2 : Nat) : Int) := by rw [IntWalk.i64_in _ (by omega)]; omega
      have w2_ : IntKind.i64.wrap (((q + 2 : Nat) : Int) + 1) = ((q + 3 : Nat) : Int) := by rw [IntWalk.i64_in _ (by omega)]; omega
      have w3_ : IntKind.i64.wrap (((q + 3 : Nat) : Int) + 1) = ((q + 4 : Nat) : Int) := by rw [IntWalk.i64_in _ (by omega)]; omega
      have w4_ : IntKind.i64.wrap (((q + 4 : Nat) : Int) + 1) = ((q + 5 : Nat) : Int) := by rw [IntWalk.i64_in _ (by omega)]; omega
      have w5_ : IntKind.i64.wrap (((q + 5 : Nat) : Int) + 1) = ((q + 6 : Nat) : Int) := by rw [IntWalk.i64_in _ (by omega)]; omega
      have w6_ : IntKind.i64.wrap (((q + 6 : Nat) : Int) + 1) = ((q + 7 : Nat) : Int) := by rw [IntWalk.i64_in _ (by omega)]; omega
      clear hx hc hg hgw hk hq hq0 eq
      rw [Nat.add_zero] at c0
      generalize q + 1 = q1 at *
      generalize q + 2 = q2 at *
      generalize q + 3 = q3 at *
      generalize q + 4 = q4 at *
      generalize q + 5 = q5 at *
      generalize q + 6 = q6 at *
      generalize q + 7 = q7 at *
      obtain ⟨tx, etx⟩ : ∃ tx, markT q5 = tx := ⟨_, rfl⟩
      rw [etx] at HM c5
      clear etx
      have n0 : ((q : Int) != (q : Int)) = false := by simp
      have n1 : ((q1 : Int) != (q1 : Int)) = false := by simp
      have n2 : ((q2 : Int) != (q2 : Int)) = false := by simp
      have n3 : ((q3 : Int) != (q3 : Int)) = false := by simp
      have n4 : ((q4 : Int) != (q4 : Int)) = false := by simp
      have n6 : ((q6 : Int) != (q6 : Int)) = false := by simp
      go_wp2_with (first
        | (refine wpList_load_one rfl 2 (.tmp 15) rfl b (o + m * 7) rfl 159 row (0, 0) HG.out _ c0 _ Tryz.underlying2 rfl (by kernel_rfl) ?_)
        | (refine wpList_load_one rfl 2 (.tmp 24) rfl b (o + m * 7 + 1) rfl 159 row (0, 0) HG.out _ c1 _ Tryz.underlying2 rfl (by kernel_rfl) ?_)
        | (refine wpList_load_one rfl 2 (.tmp 33) rfl b (o + m * 7 + 2) rfl 159 row (0, 0) HG.out _ c2 _ Tryz.underlying2 rfl (by kernel_rfl) ?_)
        | (refine wpList_load_one rfl 2 (.tmp 42) rfl b (o + m * 7 + 3) rfl 159 row (0, 0) HG.out _ c3 _ Tryz.underlying2 rfl (by kernel_rfl) ?_)
        | (refine wpList_load_one rfl 2 (.tmp 51) rfl b (o + m * 7 + 4) rfl 159 row (0, 0) HG.out _ c4 _ Tryz.underlying2 rfl (by kernel_rfl) ?_))
      refine wp_region_quiet (C := fun W => Below wr.heap.size wr W) (by kernel_rfl) (by kernel_rfl) (Below.refl _ _).drew ?_
      dsimp only
      go_big_quiet_want; go_big_quiet_op; first | go_big_quiet_on | (refine ⟨_, fun _ _ => rfl, ?_⟩; go_big_quiet_on)
      go_big_quiet_want; go_big_quiet_op; first | go_big_quiet_on | (refine ⟨_, fun _ _ => rfl, ?_⟩; go_big_quiet_on)
      go_big_quiet_want; go_big_quiet_op; first | go_big_quiet_on | (refine ⟨_, fun _ _ => rfl, ?_⟩; go_big_quiet_on)
      go_big_quiet_want; go_big_quiet_op; first | go_big_quiet_on | (refine ⟨_, fun _ _ => rfl, ?_⟩; go_big_quiet_on)
      go_big_quiet_want; refine ⟨.string tx, fun W hW => (quietLoadOne 9 (.tmp 60) rfl b (o + m * 7 + 5) rfl _ (rowCells HG.out hW _ _ c5) _ Tryz.underlying9 rfl), ?_⟩; simp only [Act.put, List.setIfInBounds_toArray, List.set_cons_zero, List.set_cons_succ]; go_big_quiet_on
      go_big_quiet_want; go_big_quiet_op; first | go_big_quiet_on | (refine ⟨_, fun _ _ => rfl, ?_⟩; go_big_quiet_on)
      go_big_quiet_want; go_big_quiet_op; refine ⟨_, fun W hW => quietCall hW (HM W).out, ?_⟩; go_big_quiet_on
      go_big_quiet_want; go_big_quiet_op; first | go_big_quiet_on | (refine ⟨_, fun _ _ => rfl, ?_⟩; go_big_quiet_on)
      refine wpQuiet_nil ?_
      intro X hX
      have HG2 := Lib.hid ((hX.block b (Array.getElem?_eq_some_iff.1 HG.out).1).trans HG.out)
      go_wp2_with (first
        | (refine wpList_load_one rfl 2 (.tmp 70) rfl b (o + m * 7 + 6) rfl 159 row (0, 0) HG2.out _ c6 _ Tryz.underlying2 rfl (by kernel_rfl) ?_))
      go_roundw
      case rel => exact ⟨m + 1, by go_num, by rw [HK.out], by omega, hb.trans (hX.mono hb.size)⟩
      case measure => simp [intOf]; omega
    · have hge : N ≤ m := by omega
      go_wp2_with fail
      go_ret
      exact ⟨by rw [show N = m by omega]; rfl, hb⟩
end Go.Proofs.YtioldepgoodipaaGreat
