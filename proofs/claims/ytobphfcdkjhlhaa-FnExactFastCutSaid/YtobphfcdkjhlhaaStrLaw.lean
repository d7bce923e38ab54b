/- The laws' own eqStringS, markStringS and heldStringS. -/
import Derived.Test.YtobphfcdkjhlhaaCut
import Derived.Test.YtobphfcdkjhlhaaTab
import Derived.Test.YtobphfcdkjhlhaaMark
namespace Go.Proofs.Ytobphfcdkjhlhaa
open Go.RowKit
set_option linter.unusedVariables false

def strAt (l : List ByteArray) (i : Nat) : ByteArray := l[i]?.getD ByteArray.empty
theorem strAt_some {l : List ByteArray} {i : Nat} (h : i < l.length) : l[i]? = some (strAt l i) := by
  unfold strAt
  rw [List.getElem?_eq_getElem h]
  rfl
/-- n marks from k on. -/
def marksStr (k n : Nat) : List ByteArray := (List.range n).map fun i => markT (k + i)
theorem marksStr_length (k n : Nat) : (marksStr k n).length = n := by simp [marksStr]
theorem marksStr_get {k n i : Nat} (h : i < n) : (marksStr k n)[i]? = some (markT (k + i)) := by
  unfold marksStr
  rw [List.getElem?_map, List.getElem?_range h]
  rfl
theorem marksStr_at {k n i : Nat} {x : ByteArray} (h : (marksStr k n)[i]? = some x) : i < n ∧ x = markT (k + i) := by
  have hi : i < n := by
    have := (List.getElem?_eq_some_iff.1 h).1
    rwa [marksStr_length] at this
  rw [marksStr_get hi] at h
  exact ⟨hi, (Option.some.inj h).symm⟩
set_option maxRecDepth 100000 in
set_option maxHeartbeats 2000000 in
theorem eqStringS_same (a a' : Option Addr) (cap cap' : Nat) (l : List ByteArray) (w : World) (h : RsIn strL 1 w a l) (h' : RsIn strL 1 w a' l) (hlen : l.length ≤ 1048576) :
    Calls Try.prog 39 #[.slice a l.length cap, .slice a' l.length cap'] w fun e w' => e = .returned (.bool true) ∧ Below w.heap.size w w' := by
  obtain ⟨N, hN⟩ : ∃ N, l.length = N := ⟨_, rfl⟩
  have HN := Lib.hid hN
  have HI := Lib.hid h
  have HI' := Lib.hid h'
  rw [hN] at hlen ⊢
  clear hN h h'
  go_enter Try.func39, Try.ntmps39
  go_wp2_with fail
  go_loopw [5] (fun i wr => ∃ k : Nat, i = .int .i64 (k : Int) ∧ k ≤ N ∧ Below w.heap.size w wr) (fun i _ => N - (intOf i).toNat)
  case atStart => exact ⟨0, rfl, by omega, Below.refl _ _⟩
  case round =>
    obtain ⟨k, rfl, hk, hb⟩ := hrel
    by_cases hkn : k < N
    · have hkl : k < l.length := by have := HN.out; omega
      have hi1 : (0 : Int) ≤ (k : Int) := by omega
      have hi2 : (k : Int) < (N : Int) := by omega
      obtain ⟨b, o, rfl, hlt, hc⟩ := HI.out.at (by omega)
      obtain ⟨b', o', rfl, hlt', hc'⟩ := HI'.out.at (by omega)
      have lB : b < wr.heap.size := Nat.lt_of_lt_of_le hlt hb.size
      have lB' : b' < wr.heap.size := Nat.lt_of_lt_of_le hlt' hb.size
      have h0 := hc k _ (strAt_some hkl) 0 _ rfl
      have h0' := hc' k _ (strAt_some hkl) 0 _ rfl
      rw [Nat.mul_one, Nat.add_zero] at h0 h0'
      have HC := Lib.hid ((hb.cell (p := ⟨b, _, none⟩) hlt).trans h0)
      have HC' := Lib.hid ((hb.cell (p := ⟨b', _, none⟩) hlt').trans h0')
      clear hc hc' h0 h0'
      generalize strAt l k = x at *
      go_wp2_with fail
      refine wp_region_quiet (C := fun W => Below wr.heap.size wr W) (by kernel_rfl) (by kernel_rfl) (Below.refl _ _).drew ?_
      dsimp only
      go_big_quiet_want; go_big_quiet_op; first | go_big_quiet_on | (refine ⟨_, fun _ _ => rfl, ?_⟩; go_big_quiet_on)
      go_big_quiet_want; go_big_quiet_op; first | go_big_quiet_on | (refine ⟨_, fun _ _ => rfl, ?_⟩; go_big_quiet_on)
      go_big_quiet_want; go_big_quiet_op; first | go_big_quiet_on | (refine ⟨_, fun _ _ => rfl, ?_⟩; go_big_quiet_on)
      go_big_quiet_want; refine ⟨.string x, fun W hW => (quietLoadOne 9 (.tmp 19) rfl b (o + k) rfl _ ((hW.cell (p := ⟨b, _, none⟩) lB).trans HC.out) _ Try.underlying9 rfl), ?_⟩; simp only [Act.put, List.setIfInBounds_toArray, List.set_cons_zero, List.set_cons_succ]; go_big_quiet_on
      go_big_quiet_want; go_big_quiet_op; first | go_big_quiet_on | (refine ⟨_, fun _ _ => rfl, ?_⟩; go_big_quiet_on)
      go_big_quiet_want; go_big_quiet_op; first | go_big_quiet_on | (refine ⟨_, fun _ _ => rfl, ?_⟩; go_big_quiet_on)
      go_big_quiet_want; go_big_quiet_op; first | go_big_quiet_on | (refine ⟨_, fun _ _ => rfl, ?_⟩; go_big_quiet_on)
      go_big_quiet_want; refine ⟨.string x, fun W hW => (quietLoadOne 9 (.tmp 23) rfl b' (o' + k) rfl _ ((hW.cell (p := ⟨b', _, none⟩) lB').trans HC'.out) _ Try.underlying9 rfl), ?_⟩; simp only [Act.put, List.setIfInBounds_toArray, List.set_cons_zero, List.set_cons_succ]; go_big_quiet_on
      go_big_quiet_want; go_big_quiet_op; first | go_big_quiet_on | (refine ⟨_, fun _ _ => rfl, ?_⟩; go_big_quiet_on)
      refine wpQuiet_nil ?_
      intro X hX
      go_wp2_with fail
      go_roundw
      case rel => exact ⟨k + 1, by go_num, by omega, hb.trans (hX.mono hb.size)⟩
      case measure => simp [intOf]; omega
    · go_wp2_with fail
      go_ret
      exact ⟨rfl, hb⟩
set_option maxRecDepth 100000 in
set_option maxHeartbeats 4000000 in
theorem markStringS_any {lo hi : Nat} (a : Option Addr) (cap : Nat) (l : List ByteArray) (k : Nat) (w : World) (h : RsNew strL 1 9 lo hi w a l) (hk0 : 0 < k) (hk : k + l.length ≤ 8000000) :
    Calls Try.prog 40 #[.slice a l.length cap, .int .i64 (k : Int)] w fun e w' => e = .returned (.int .i64 ((k + l.length : Nat) : Int)) ∧ RsNew strL 1 9 lo hi w' a (marksStr k l.length) ∧ Out lo hi w w' := by
  obtain ⟨N, hN⟩ : ∃ N, l.length = N := ⟨_, rfl⟩
  have HN := Lib.hid hN
  rcases Nat.eq_zero_or_pos N with hN0 | hN0
  · rw [hN]
    subst hN0
    clear hN h
    go_enter Try.func40, Try.ntmps40
    go_wp2
    refine wp_loop_rounds 1 ?_
    rw [rounds_succ]; go_wp2
    go_ret
    exact ⟨rfl, .inl (by first | rfl | (simp [marksStr])), Out.refl _ _ _⟩
  obtain ⟨b, o, row0, rfl, hlo, hhi, hg0, hs0⟩ : ∃ b o row, a = some ⟨b, o, none⟩ ∧ lo ≤ b ∧ b < hi ∧ w.heap[b]? = some (.cells row 9 (0, 0)) ∧ o + N ≤ row.size := by
    rcases h with h | ⟨b, o, row, h1, h2, h3, h4, h5, h6⟩
    · rw [h] at hN
      simp at hN
      omega
    · rw [hN, Nat.mul_one] at h5
      exact ⟨b, o, row, h1, h2, h3, h4, h5⟩
  have HG0 := Lib.hid hg0
  have HS0 := Lib.hid hs0
  have hN8 : N ≤ 8000000 := by omega
  rw [hN] at hk ⊢
  clear hN h hg0 hs0
  go_enter Try.func40, Try.ntmps40
  go_wp2_with fail
  go_loopw [1, 5] (fun u i wr => ∃ (m : Nat) (row : Array Value), i = .int .i64 (m : Int) ∧ u = .int .i64 ((k + m : Nat) : Int) ∧ m ≤ N ∧ Out lo hi w wr ∧ wr.heap[b]? = some (.cells row 9 (0, 0)) ∧ o + N ≤ row.size ∧
    (∀ j, j < m → row[o + j]? = some (.string (markT (k + j))))) (fun _ i _ => N - (intOf i).toNat)
  case atStart => exact ⟨0, row0, rfl, rfl, by omega, Out.refl _ _ _, HG0.out, HS0.out, fun j hj => absurd hj (by omega)⟩
  case round =>
    obtain ⟨m, row, rfl, rfl, hm, hb, hgr, hrs, hdone⟩ := hrel
    have HD := Lib.hid hdone
    have HA := Lib.hid hgr
    have HB := Lib.hid hb
    have HRS := Lib.hid hrs
    clear hdone hgr hb HG0 HS0
    by_cases hmn : m < N
    · have hi1 : (0 : Int) ≤ (m : Int) := by omega
      have hi2 : (m : Int) < (N : Int) := by omega
      have hq : k + m + 1 ≤ 8000000 := by omega
      have hr1 : o + m + 1 ≤ row.size := by omega
      obtain ⟨q, eq⟩ : ∃ q, k + m = q := ⟨_, rfl⟩
      have hq0 : 0 < q := by omega
      have HQ := Lib.hid eq
      rw [eq] at hq ⊢
      have hw1 : IntKind.i64.wrap ((q : Int) + 1) = ((q + 1 : Nat) : Int) := by rw [IntWalk.i64_in _ (by omega)]; omega
      have HM := fun W => Lib.hid (markText_any q W (by omega) (by omega))
      clear eq hrs hk
      go_wp2_with fail
      refine (HM _).out.mono ?_
      rintro e w2 ⟨rfl, h2⟩
      have HA2 := Lib.hid ((h2.block b (Array.getElem?_eq_some_iff.1 HA.out).1).trans HA.out)
      have HB2 := Lib.hid (HB.out.trans (Out.of_below h2))
      clear h2 HA HB
      go_wp2_with (refine wpList_put_at rfl 9 (.tmp 16) (.tmp 15) rfl rfl b (o + m) rfl (.string (markT q)) rfl #[.string (markT q)] rfl 9 row _ HA2.out (by kernel_rfl) (Nat.ble_eq_true_of_le hr1) (by rfl) rfl ?_; intro w3 g3 o3; have HA3 := Lib.hid g3; have HB3 := Lib.hid (HB2.out.trans (o3.widen hlo hhi)); clear g3 o3)
      go_roundw
      case rel =>
        refine ⟨m + 1, _, by go_num, by have := HQ.out; rw [← this]; rfl, by omega, HB3.out, HA3.out, by rw [setAll_size]; exact HRS.out, fun j hj => ?_⟩
        rcases Nat.lt_or_ge j m with h | h
        · rw [setAll_off _ _ _ _ (.inl (by omega))]
          exact HD.out j h
        · obtain rfl : j = m := by omega
          have := setAll_at [Value.string (markT q)] row (o + j) 0 _ (by show o + j + 1 ≤ _; exact hr1) rfl
          rw [HQ.out]
          simpa using this
      case measure => simp [intOf]; omega
    · have hge : N ≤ m := by omega
      go_wp2_with fail
      go_ret
      exact ⟨by rw [show N = m by omega]; rfl, .inr ⟨b, o, row, rfl, hlo, hhi, HA.out, by rw [marksStr_length, Nat.mul_one]; exact hrs, fun i x hx c v hv => by
        obtain ⟨hi, rfl⟩ := marksStr_at hx
        have hc0 : c = 0 := by
          have := (List.getElem?_eq_some_iff.1 hv).1
          simp [strL] at this
          omega
        subst hc0
        have hv' : v = .string (markT (k + i)) := by simpa [strL] using hv.symm
        subst hv'
        rw [Nat.mul_one, Nat.add_zero]
        exact HD.out i (by omega)⟩, HB.out⟩
set_option maxRecDepth 100000 in
set_option maxHeartbeats 4000000 in
theorem heldStringS_any {lo hi : Nat} (a : Option Addr) (cap : Nat) (N : Nat) (k : Nat) (w : World) (h : RsNew strL 1 9 lo hi w a (marksStr k N)) (hk0 : 0 < k) (hk : k + N ≤ 8000000) :
    Calls Try.prog 41 #[.slice a N cap, .int .i64 (k : Int)] w fun e w' => e = .returned (.int .i64 ((k + N : Nat) : Int)) ∧ Below w.heap.size w w' := by
  have HI := Lib.hid h.ins
  have hN8 : N ≤ 8000000 := by omega
  clear h
  go_enter Try.func41, Try.ntmps41
  go_wp2_with fail
  go_loopw [1, 5] (fun u i wr => ∃ m : Nat, i = .int .i64 (m : Int) ∧ u = .int .i64 ((k + m : Nat) : Int) ∧ m ≤ N ∧ Below w.heap.size w wr) (fun _ i _ => N - (intOf i).toNat)
  case atStart => exact ⟨0, rfl, rfl, by omega, Below.refl _ _⟩
  case round =>
    obtain ⟨m, rfl, rfl, hm, hb⟩ := hrel
    by_cases hmn : m < N
    · obtain ⟨b, o, rfl, hlt, hc⟩ := HI.out.at (by rw [marksStr_length]; omega)
      have lB : b < wr.heap.size := Nat.lt_of_lt_of_le hlt hb.size
      have h0 := hc m _ (marksStr_get hmn) 0 _ rfl
      rw [Nat.mul_one, Nat.add_zero] at h0
      have h1 := (hb.cell (p := ⟨b, _, none⟩) hlt).trans h0
      have hi1 : (0 : Int) ≤ (m : Int) := by omega
      have hi2 : (m : Int) < (N : Int) := by omega
      have hq : k + m + 1 ≤ 8000000 := by omega
      obtain ⟨q, eq⟩ : ∃ q, k + m = q := ⟨_, rfl⟩
      have hq0 : 0 < q := by omega
      have HQ := Lib.hid eq
      rw [eq] at hq h1 ⊢
      have hw1 : IntKind.i64.wrap ((q : Int) + 1) = ((q + 1 : Nat) : Int) := by rw [IntWalk.i64_in _ (by omega)]; omega
      have HM := fun W => Lib.hid (markText_any q W (by omega) (by omega))
      have HC := Lib.hid h1
      clear eq h0 h1 hc hk
      go_wp2_with fail
      refine wp_region_quiet (C := fun W => Below wr.heap.size wr W) (by kernel_rfl) (by kernel_rfl) (Below.refl _ _).drew ?_
      dsimp only
      go_big_quiet_want; go_big_quiet_op; first | go_big_quiet_on | (refine ⟨_, fun _ _ => rfl, ?_⟩; go_big_quiet_on)
      go_big_quiet_want; go_big_quiet_op; first | go_big_quiet_on | (refine ⟨_, fun _ _ => rfl, ?_⟩; go_big_quiet_on)
      go_big_quiet_want; go_big_quiet_op; first | go_big_quiet_on | (refine ⟨_, fun _ _ => rfl, ?_⟩; go_big_quiet_on)
      go_big_quiet_want; refine ⟨.string (markT q), fun W hW => (quietLoadOne 9 (.tmp 14) rfl b (o + m) rfl _ ((hW.cell (p := ⟨b, _, none⟩) lB).trans HC.out) _ Try.underlying9 rfl), ?_⟩; simp only [Act.put, List.setIfInBounds_toArray, List.set_cons_zero, List.set_cons_succ]; go_big_quiet_on
      go_big_quiet_want; go_big_quiet_op; first | go_big_quiet_on | (refine ⟨_, fun _ _ => rfl, ?_⟩; go_big_quiet_on)
      go_big_quiet_want; go_big_quiet_op; refine ⟨_, fun W hW => quietCall hW (HM W).out, ?_⟩; go_big_quiet_on
      go_big_quiet_want; go_big_quiet_op; first | go_big_quiet_on | (refine ⟨_, fun _ _ => rfl, ?_⟩; go_big_quiet_on)
      refine wpQuiet_nil ?_
      intro X hX
      go_wp2_with fail
      go_roundw
      case rel => exact ⟨m + 1, by go_num, by have := HQ.out; rw [← this]; rfl, by omega, hb.trans (hX.mono hb.size)⟩
      case measure => simp [intOf]; omega
    · have hge : N ≤ m := by omega
      go_wp2_with fail
      go_ret
      exact ⟨by rw [show N = m by omega]; rfl, hb⟩
theorem markStr_1 {lo hi : Nat} (a : Option Addr) (cap : Nat) (l : List ByteArray) (w : World) (h : RsNew strL 1 9 lo hi w a l) (hk : l.length ≤ 1100000) :
    Calls Try.prog 40 #[.slice a l.length cap, .int .i64 1] w fun e w' => e = .returned (.int .i64 ((1 + l.length : Nat) : Int)) ∧ RsNew strL 1 9 lo hi w' a (marksStr 1 l.length) ∧ Out lo hi w w' :=
  markStringS_any a cap l 1 w h (by omega) (by omega)
theorem heldStr_1 {lo hi : Nat} (a : Option Addr) (cap : Nat) (N : Nat) (w : World) (h : RsNew strL 1 9 lo hi w a (marksStr 1 N)) (hk : N ≤ 1100000) :
    Calls Try.prog 41 #[.slice a N cap, .int .i64 1] w fun e w' => e = .returned (.int .i64 ((1 + N : Nat) : Int)) ∧ Below w.heap.size w w' :=
  heldStringS_any a cap N 1 w h (by omega) (by omega)
end Go.Proofs.Ytobphfcdkjhlhaa
