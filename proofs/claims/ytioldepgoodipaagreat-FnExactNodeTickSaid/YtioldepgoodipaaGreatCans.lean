/- Lists of Cans in memory: whether all are right, the program's and the model's. For every list; nothing that was there is written. -/
import Derived.Test.YtioldepgoodipaaGreatCan
namespace Go.Proofs.YtioldepgoodipaaGreat
open Go.RowKit
set_option linter.unusedVariables false

/-- The cells behind a are these Cans. -/
def CansIn (w : World) (a : Option Addr) (l : List (Int × ByteArray)) : Prop :=
  l = [] ∨ ∃ b o, a = some ⟨b, o, none⟩ ∧ b < w.heap.size ∧ ∀ (i : Nat) x, l[i]? = some x → w.cell? ⟨b, o + i * 2, none⟩ = some (.int .i64 x.1) ∧ w.cell? ⟨b, o + i * 2 + 1, none⟩ = some (.string x.2)
/-- Numbers of 64 bits, and texts. -/
def CansOk (l : List (Int × ByteArray)) : Prop := ∀ x ∈ l, (-9223372036854775808 ≤ x.1 ∧ x.1 ≤ 9223372036854775807) ∧ x.2.size ≤ maxLen
theorem CansIn.kept {w w' : World} {a : Option Addr} {l : List (Int × ByteArray)} (h : CansIn w a l) (hb : Below w.heap.size w w') : CansIn w' a l := by
  rcases h with h | ⟨b, o, rfl, hlt, hc⟩
  · exact .inl h
  · exact .inr ⟨b, o, rfl, Nat.lt_of_lt_of_le hlt hb.size, fun i x hx => ⟨(hb.cell (p := ⟨b, _, none⟩) hlt).trans (hc i x hx).1, (hb.cell (p := ⟨b, _, none⟩) hlt).trans (hc i x hx).2⟩⟩
/-- The i-th one. -/
def canAt (l : List (Int × ByteArray)) (i : Nat) : Int × ByteArray := l[i]?.getD (0, ByteArray.empty)
theorem canAt_some {l : List (Int × ByteArray)} {i : Nat} (h : i < l.length) : l[i]? = some (canAt l i) := by
  unfold canAt
  rw [List.getElem?_eq_getElem h]
  rfl
theorem canAt_ok {l : List (Int × ByteArray)} (h : CansOk l) {i : Nat} (hi : i < l.length) : (-9223372036854775808 ≤ (canAt l i).1 ∧ (canAt l i).1 ≤ 9223372036854775807) ∧ (canAt l i).2.size ≤ maxLen :=
  h _ (List.mem_of_getElem? (canAt_some hi))
/-- All are right. -/
def allB (l : List (Int × ByteArray)) : Bool := l.all fun x => canB x.1 x.2
def AllTo (l : List (Int × ByteArray)) (n : Nat) : Prop := ∀ i, i < n → canB (canAt l i).1 (canAt l i).2 = true
theorem AllTo.zero (l : List (Int × ByteArray)) : AllTo l 0 := fun i h => absurd h (by omega)
theorem AllTo.next {l : List (Int × ByteArray)} {n : Nat} (h : AllTo l n) (hn : canB (canAt l n).1 (canAt l n).2 = true) : AllTo l (n + 1) := by
  intro i hi
  rcases Nat.lt_or_ge i n with h' | h'
  · exact h i h'
  · obtain rfl : i = n := by omega
    exact hn
theorem allB_yes {l : List (Int × ByteArray)} (h : AllTo l l.length) : allB l = true := by
  unfold allB
  rw [List.all_eq_true]
  intro x hx
  obtain ⟨i, hi, rfl⟩ := List.mem_iff_getElem.1 hx
  have := h i hi
  rwa [show canAt l i = l[i] by unfold canAt; rw [List.getElem?_eq_getElem hi]; rfl] at this
theorem allB_no {l : List (Int × ByteArray)} {i : Nat} (hi : i < l.length) (h : canB (canAt l i).1 (canAt l i).2 = false) : allB l = false := by
  unfold allB
  rw [List.all_eq_false]
  exact ⟨canAt l i, List.mem_of_getElem? (canAt_some hi), by rw [h]; simp⟩

set_option maxHeartbeats 1000000 in
theorem implAllRight_any (a : Option Addr) (cap : Nat) (l : List (Int × ByteArray)) (w : World) (h : CansIn w a l) (hok : CansOk l) (hlen : l.length ≤ 1048576) :
    Calls Tryz.prog 189 #[.slice a l.length cap] w fun e w' => e = .returned (.bool (allB l)) ∧ Below w.heap.size w w' := by
  rcases h with rfl | ⟨b, o, rfl, hlt, hc⟩
  · go_enter Tryz.func189, Tryz.ntmps189
    go_wp2
    refine wp_loop_rounds 1 ?_
    rw [rounds_succ]; go_wp2
    go_ret
    exact ⟨rfl, Below.refl _ _⟩
  · have HI := Lib.hid hc
    have HK := Lib.hid hok
    clear hc hok
    obtain ⟨N, hN⟩ : ∃ N, l.length = N := ⟨_, rfl⟩
    have HN := Lib.hid hN
    rw [hN] at hlen ⊢
    clear hN
    go_enter Tryz.func189, Tryz.ntmps189
    go_wp2
    go_loopw [4, 7] (fun _ i wr => ∃ k : Nat, i = .int .i64 (k : Int) ∧ k ≤ N ∧ AllTo l k ∧ Below w.heap.size w wr) (fun _ i _ => N - (intOf i).toNat)
    case atStart => exact ⟨0, rfl, by omega, AllTo.zero l, Below.refl _ _⟩
    case round =>
      obtain ⟨k, rfl, hk, hup, hb⟩ := hrel
      have HU := Lib.hid hup
      have hsz := hb.size
      clear hup
      by_cases hkn : k < N
      · have hkl : k < l.length := by have := HN.out; omega
        have hcell := HI.out k _ (canAt_some hkl)
        have hg := canAt_ok HK.out hkl
        have HX := Lib.hid (@AllTo.next l k HU.out)
        have HF := Lib.hid (@allB_no l k hkl)
        generalize canAt l k = x at *
        obtain ⟨n, s⟩ := x
        obtain ⟨c0, c1⟩ := hcell
        have d0 : wr.cell? ⟨b, o + k * 2, none⟩ = some (.int .i64 n) := (hb.cell (p := ⟨b, _, none⟩) hlt).trans c0
        have d1 : wr.cell? ⟨b, o + k * 2 + 1, none⟩ = some (.string s) := (hb.cell (p := ⟨b, _, none⟩) hlt).trans c1
        have HC := fun W => Lib.hid (implCanRight_any n s W hg.1.1 hg.1.2 hg.2)
        have hbw : b < wr.heap.size := by omega
        clear c0 c1
        rcases hcb : canB n s
        · rw [hcb] at HC
          go_wp2_with (go_at_call 66; refine (HC _).out.mono ?_; rintro e w1 ⟨rfl, h1⟩)
          go_ret
          exact ⟨by rw [HF.out hcb]; rfl, (hb.alloc hsz _).trans (h1.mono (by simp; omega))⟩
        · rw [hcb] at HC
          go_wp2_with (go_at_call 66; refine (HC _).out.mono ?_; rintro e w1 ⟨rfl, h1⟩)
          go_roundw
          case rel => exact ⟨k + 1, by go_num, by omega, HX.out hcb, (hb.alloc hsz _).trans (h1.mono (by simp; omega))⟩
          case measure => simp [intOf]; omega
      · have hge : N ≤ k := by omega
        have HO := Lib.hid (allB_yes (l := l) (by rw [show l.length = k by have := HN.out; omega]; exact HU.out))
        clear hkn
        go_wp2
        go_ret
        exact ⟨by rw [HO.out]; rfl, hb⟩

set_option maxHeartbeats 1000000 in
theorem specAll_any (a : Option Addr) (cap : Nat) (l : List (Int × ByteArray)) (w : World) (h : CansIn w a l) (hok : CansOk l) (hlen : l.length ≤ 1048576) :
    Calls Tryz.prog 153 #[.slice a l.length cap] w fun e w' => e = .returned (.bool (allB l)) ∧ Below w.heap.size w w' := by
  rcases h with rfl | ⟨b, o, rfl, hlt, hc⟩
  · go_enter Tryz.func153, Tryz.ntmps153
    go_wp2
    refine wp_loop_rounds 1 ?_
    rw [rounds_succ]; go_wp2
    go_ret
    exact ⟨rfl, Below.refl _ _⟩
  · have HI := Lib.hid hc
    have HK := Lib.hid hok
    clear hc hok
    obtain ⟨N, hN⟩ : ∃ N, l.length = N := ⟨_, rfl⟩
    have HN := Lib.hid hN
    rw [hN] at hlen ⊢
    clear hN
    go_enter Tryz.func153, Tryz.ntmps153
    go_wp2
    go_loopw [3] (fun i wr => ∃ k : Nat, i = .int .i64 (k : Int) ∧ k ≤ N ∧ AllTo l k ∧ Below w.heap.size w wr) (fun i _ => N - (intOf i).toNat)
    case atStart => exact ⟨0, rfl, by omega, AllTo.zero l, Below.refl _ _⟩
    case round =>
      obtain ⟨k, rfl, hk, hup, hb⟩ := hrel
      have HU := Lib.hid hup
      have hsz := hb.size
      clear hup
      by_cases hkn : k < N
      · have hkl : k < l.length := by have := HN.out; omega
        have hcell := HI.out k _ (canAt_some hkl)
        have hg := canAt_ok HK.out hkl
        have HX := Lib.hid (@AllTo.next l k HU.out)
        have HF := Lib.hid (@allB_no l k hkl)
        generalize canAt l k = x at *
        obtain ⟨n, s⟩ := x
        obtain ⟨c0, c1⟩ := hcell
        have d0 : wr.cell? ⟨b, o + k * 2, none⟩ = some (.int .i64 n) := (hb.cell (p := ⟨b, _, none⟩) hlt).trans c0
        have d1 : wr.cell? ⟨b, o + k * 2 + 1, none⟩ = some (.string s) := (hb.cell (p := ⟨b, _, none⟩) hlt).trans c1
        have HC := fun W => Lib.hid (specCanRight_any n s W hg.1.1 hg.1.2 hg.2)
        have hbw : b < wr.heap.size := by omega
        clear c0 c1
        rcases hcb : canB n s
        · rw [hcb] at HC
          go_wp2_with (go_at_call 63; refine (HC _).out.mono ?_; rintro e w1 ⟨rfl, h1⟩)
          go_ret
          exact ⟨by rw [HF.out hcb]; rfl, hb.trans (h1.mono (by omega))⟩
        · rw [hcb] at HC
          go_wp2_with (go_at_call 63; refine (HC _).out.mono ?_; rintro e w1 ⟨rfl, h1⟩)
          go_roundw
          case rel => exact ⟨k + 1, by go_num, by omega, HX.out hcb, hb.trans (h1.mono (by omega))⟩
          case measure => simp [intOf]; omega
      · have hge : N ≤ k := by omega
        have HO := Lib.hid (allB_yes (l := l) (by rw [show l.length = k by have := HN.out; omega]; exact HU.out))
        clear hkn
        go_wp2
        go_ret
        exact ⟨by rw [HO.out]; rfl, hb⟩
end Go.Proofs.YtioldepgoodipaaGreat
