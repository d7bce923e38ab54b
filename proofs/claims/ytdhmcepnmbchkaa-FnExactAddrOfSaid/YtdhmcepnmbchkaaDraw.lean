/- The source of the drawn inputs: what its calls leave; of a drawn number that it lies below its bound. -/
import Derived.Test.YtdhmcepnmbchkaaOwn
import Derived.RegionTactic
import Derived.ChangeAlike
import Derived.BigRegion
import Derived.Deep.QuietTactic
import Derived.BigQuiet
import Derived.IntWalk
import Derived.Handy
import Derived.OpenShut
namespace Go.Proofs.Ytdhmcepnmbchkaa
open Go.RowKit
set_option linter.unusedVariables false

/-- The bytes of a slice that came in. -/
def RowIn (w : World) (a : Option Addr) (len : Nat) (zs : List Int) : Prop :=
  (len = 0) ∨ ∃ b o, a = some ⟨b, o, none⟩ ∧ len ≤ zs.length ∧ (∀ i, i < len → w.cell? ⟨b, o + i, none⟩ = some (.int .u8 (zs.getD i 0))) ∧ ∀ i, 0 ≤ zs.getD i 0 ∧ zs.getD i 0 ≤ 255

theorem xor64 (x y : Int) : 0 ≤ bits BinOp.xor IntKind.u64 x y ∧ bits BinOp.xor IntKind.u64 x y ≤ 18446744073709551615 := by
  unfold bits
  have hw : ∀ n : Int, IntKind.u64.wrap n = n % 18446744073709551616 := fun n => by simp [IntKind.wrap, IntKind.bits, IntKind.signed]
  rw [hw]
  omega
/-- Three turns of the mix. -/
theorem mixed (m : Int) : ∃ m1 m2 m3 : Int, bits BinOp.xor IntKind.u64 m (IntKind.u64.wrap (m * 8192)) = m1 ∧ bits BinOp.xor IntKind.u64 m1 (m1 / 128) = m2 ∧ bits BinOp.xor IntKind.u64 m2 (IntKind.u64.wrap (m2 * 131072)) = m3 ∧
    0 ≤ m1 ∧ m1 ≤ 18446744073709551615 ∧ 0 ≤ m2 ∧ m2 ≤ 18446744073709551615 ∧ 0 ≤ m3 ∧ m3 ≤ 18446744073709551615 :=
  ⟨_, _, _, rfl, rfl, rfl, (xor64 _ _).1, (xor64 _ _).2, (xor64 _ _).1, (xor64 _ _).2, (xor64 _ _).1, (xor64 _ _).2⟩

/-- Block S is a source over that slice. -/
def Src (w : World) (S : Nat) (a : Option Addr) (len cap : Nat) : Prop :=
  ∃ k m z : Int, w.heap[S]? = some (.cells #[.slice a len cap, .int .i64 k, .int .u64 m, .int .i64 z] 123 (0, 0)) ∧ 0 ≤ k ∧ k ≤ len ∧ 0 ≤ m ∧ m ≤ 18446744073709551615 ∧ 0 ≤ z ∧ z ≤ 12

theorem grownBy_set {w w' : World} {S : Nat} (h : w.grownBy w' (some S)) (o : Nat) (v : Value) : w.grownBy (w'.setCell ⟨S, o, none⟩ v) (some S) :=
  ⟨h.os, h.tape, h.output, by simpa [World.setCell] using h.size, fun k hk hne => by
    rw [heap_setCell_other w' ⟨S, o, none⟩ k v (fun e => hne (by simp [e]))]
    exact h.block k hk hne⟩
theorem grownBy_drew {w w' : World} {r : Option Nat} (h : w.grownBy w' r) : w.grownBy w'.drew r := ⟨h.os, h.tape, h.output, h.size, h.block⟩
theorem grownBy_drewN {w w' : World} {r : Option Nat} (h : w.grownBy w' r) (n : Nat) : w.grownBy (w'.drewN n) r := ⟨h.os, h.tape, h.output, h.size, h.block⟩
theorem grownBy_trans {w w' w'' : World} {r : Option Nat} (h : w.grownBy w' r) (k : w'.grownBy w'' r) : w.grownBy w'' r :=
  ⟨k.os.trans h.os, k.tape.trans h.tape, k.output.trans h.output, Nat.le_trans h.size k.size, fun i hi hne => (k.block i (Nat.lt_of_lt_of_le hi h.size) hne).trans (h.block i hi hne)⟩
theorem grownBy_alloc {w w' : World} {r : Option Nat} (h : w.grownBy w' r) (o : Obj) : w.grownBy (w'.alloc o) r :=
  ⟨h.os, h.tape, h.output, by have := h.size; simp; omega, fun k hk hne => (Below.heap_alloc w' o k (Nat.lt_of_lt_of_le hk h.size)).trans (h.block k hk hne)⟩
theorem mod_wrap {x most : Int} (h : 1 < most) (hm : most ≤ 9223372036854775807) : 0 ≤ x % most ∧ x % most < most ∧ wrap64 (x % most) = x % most := by
  have h0 := Int.emod_nonneg x (show most ≠ 0 by omega)
  have h1 := Int.emod_lt_of_pos x (show 0 < most by omega)
  exact ⟨h0, h1, IntWalk.wrap64_in _ ⟨by omega, by omega⟩⟩

/-- A drawn number below 'most' (0 where that is no bound). -/
def DrewN (S : Nat) (a : Option Addr) (len cap : Nat) (most : Int) (w : World) (e : Ending) (w' : World) : Prop :=
  ∃ v : Int, e = .returned (.int .i64 v) ∧ 0 ≤ v ∧ (v < most ∨ v = 0) ∧ Src w' S a len cap ∧ w.grownBy w' (some S)

set_option maxRecDepth 100000 in
set_option maxHeartbeats 2000000 in
theorem n_any (S : Nat) (a : Option Addr) (len cap : Nat) (zs : List Int) (most : Int) (w : World) (hs : Src w S a len cap) (hr : RowIn w a len zs) (hlen : len ≤ 1048576) (hm : most ≤ 9223372036854775807) :
    Calls Try.prog 56 #[.pointer (some ⟨S, 0, none⟩), .int .i64 most] w (DrewN S a len cap most w) := by
  by_cases h1 : most ≤ 1
  · go_enter Try.func56, Try.ntmps56
    go_wp2
    go_ret
    exact ⟨0, rfl, by omega, .inr rfl, hs, World.grownBy.refl _ _⟩
  obtain ⟨k, m, z, hh, hk0, hk1, hm0, hm1, hz0, hz1⟩ := hs
  have HH := Lib.hid hh
  have c0 := cell_of_row w S 0 _ _ (0, 0) hh
  have c1 := cell_of_row w S 1 _ _ (0, 0) hh
  have c2 := cell_of_row w S 2 _ _ (0, 0) hh
  have f1 := frozen_of_row w S 1 _ _ hh
  have f2 := frozen_of_row w S 2 _ _ hh
  simp at c0 c1 c2
  clear hh
  obtain ⟨m1, m2, m3, x1, x2, x3, l1, g1, l2, g2, l3, g3⟩ := mixed m
  have ss := setCell_setCell
  by_cases h2 : k < len
  · rcases hr with hr | ⟨b, o, rfl, hlz, hcells, hb⟩
    · exfalso; omega
    obtain ⟨q, rfl⟩ := Int.eq_ofNat_of_zero_le hk0
    have cb := hcells q (by omega)
    have hbq := hb q
    generalize zs.getD q 0 = y at *
    clear hcells hb
    go_enter Try.func56, Try.ntmps56
    go_wp2
    go_quiet (fail)
    go_wp2
    go_quiet (fail)
    go_wp2
    go_region
    go_wp2
    go_region
    go_wp2
    go_region
    go_wp2
    go_ret
    obtain ⟨v0, v1, v2⟩ := mod_wrap (x := y + m3 / 1048576) h1 hm
    refine ⟨(y + m3 / 1048576) % most, ?_, v0, .inl v1, ⟨(q : Int) + 1, m3, z, heap_setCell_same _ S 2 _ _ (.int .u64 m3) (heap_setCell_same w S 1 _ _ (.int .i64 ((q : Int) + 1)) HH.out), by omega, by omega, l3, g3, hz0, hz1⟩, ?_⟩
    · show Ending.returned (.int .i64 (wrap64 ((y + m3 / 1048576) % most))) = _
      rw [v2]
    · repeat (first | exact World.grownBy.refl _ _ | refine grownBy_drew ?_ | refine grownBy_drewN ?_ _ | refine grownBy_set ?_ _ _)
  · have h2' : (len : Int) ≤ k := by omega
    clear h2
    go_enter Try.func56, Try.ntmps56
    go_wp2
    go_quiet (fail)
    go_wp2
    go_region
    go_wp2
    go_region
    go_wp2
    go_region
    go_wp2
    go_ret
    obtain ⟨v0, v1, v2⟩ := mod_wrap (x := m3 / 1048576) h1 hm
    refine ⟨(m3 / 1048576) % most, ?_, v0, .inl v1, ⟨k, m3, z, heap_setCell_same w S 2 _ _ (.int .u64 m3) HH.out, hk0, hk1, l3, g3, hz0, hz1⟩, ?_⟩
    · show Ending.returned (.int .i64 (wrap64 ((m3 / 1048576) % most))) = _
      rw [v2]
    · repeat (first | exact World.grownBy.refl _ _ | refine grownBy_drew ?_ | refine grownBy_drewN ?_ _ | refine grownBy_set ?_ _ _)

/-- A drawn 'one of' says whether a number is 0. -/
def DrewB (S : Nat) (a : Option Addr) (len cap : Nat) (w : World) (e : Ending) (w' : World) : Prop :=
  ∃ v : Bool, e = .returned (.bool v) ∧ Src w' S a len cap ∧ w.grownBy w' (some S)

theorem one_any (S : Nat) (a : Option Addr) (len cap : Nat) (zs : List Int) (most : Int) (w : World) (hs : Src w S a len cap) (hr : RowIn w a len zs) (hlen : len ≤ 1048576) (hm : most ≤ 9223372036854775807) :
    Calls Try.prog 55 #[.pointer (some ⟨S, 0, none⟩), .int .i64 most] w (DrewB S a len cap w) := by
  have HN := Lib.hid (n_any S a len cap zs most w hs hr hlen hm)
  clear hs hr
  go_enter Try.func55, Try.ntmps55
  go_wp2_with (go_at_call 56; refine HN.out.mono ?_; rintro e w1 ⟨v, rfl, v0, v1, hs1, hg1⟩)
  go_ret
  exact ⟨_, rfl, hs1, hg1⟩

theorem RowIn.kept {w w' : World} {a : Option Addr} {len : Nat} {zs : List Int} (h : RowIn w a len zs) {B : Nat} (hB : Below B w w') (hb : 0 < len → ∀ b o, a = some ⟨b, o, none⟩ → b < B) : RowIn w' a len zs := by
  rcases Nat.eq_zero_or_pos len with h0 | h0
  · exact .inl h0
  rcases h with h | ⟨b, o, rfl, hl, hc, hz⟩
  · exact .inl h
  · exact .inr ⟨b, o, rfl, hl, fun i hi => (hB.cell (p := ⟨b, o + i, none⟩) (hb h0 _ _ rfl)).trans (hc i hi), hz⟩

theorem wrap64u (x : Int) : 0 ≤ IntKind.u64.wrap x ∧ IntKind.u64.wrap x ≤ 18446744073709551615 := by
  have hw : IntKind.u64.wrap x = x % 18446744073709551616 := by simp [IntKind.wrap, IntKind.bits, IntKind.signed]
  rw [hw]
  omega

set_option maxRecDepth 100000 in
set_option maxHeartbeats 2000000 in
theorem source_any (a : Option Addr) (len cap : Nat) (zs : List Int) (w : World) (hr : RowIn w a len zs) (hlen : len ≤ 1048576) (hba : 0 < len → ∀ b o, a = some ⟨b, o, none⟩ → b < w.heap.size) :
    Calls Try.prog 52 #[.slice a len cap] w fun e w' => e = .returned (.pointer (some ⟨w.heap.size, 0, none⟩)) ∧ Src w' w.heap.size a len cap ∧ Below w.heap.size w w' := by
  have ss := setCell_setCell
  have HA := Lib.hid hba
  have HRow := Lib.hid hr
  clear hba hr
  go_enter Try.func52, Try.ntmps52
  go_wp2
  go_loopw [4] (fun i wr => ∃ (k : Nat) (m : Int), i = .int .i64 (k : Int) ∧ k ≤ len ∧ 0 ≤ m ∧ m ≤ 18446744073709551615 ∧ wr.heap[w.heap.size]? = some (.cells #[.slice a len cap, .int .i64 0, .int .u64 m, .int .i64 0] 123 (0, 0)) ∧ Below w.heap.size w wr) (fun i _ => len - (intOf i).toNat)
  case atStart => exact ⟨0, _, rfl, by omega, by omega, by omega, heap_alloc_new _ _, (Below.refl _ _).alloc (Nat.le_refl _) _⟩
  case round =>
    obtain ⟨k, m, rfl, hk, hm0, hm1, hh, hb⟩ := hrel
    have HH := Lib.hid hh
    have c2 := cell_of_row wr w.heap.size 2 _ _ (0, 0) hh
    have c3 := cell_of_row wr w.heap.size 3 _ _ (0, 0) hh
    have f2 := frozen_of_row wr w.heap.size 2 _ _ hh
    have f3 := frozen_of_row wr w.heap.size 3 _ _ hh
    simp at c2 c3
    clear hh
    by_cases h1 : k < len ∧ k < 64
    · obtain ⟨h1, h2⟩ := h1
      rcases HRow.out with h | ⟨b, o, rfl, hlz, hcells, hz⟩
      · exfalso; omega
      have cb := (hb.cell (p := ⟨b, o + k, none⟩) (HA.out (by omega) b o rfl)).trans (hcells k h1)
      have hbq := hz k
      generalize zs.getD k 0 = y at *
      clear hcells hz hlz
      have e2 : decide ((k : Int) < 64) = true := by simp; omega
      obtain ⟨p, hp⟩ : ∃ p, IntKind.u64.wrap (bits BinOp.xor IntKind.u64 m y * 1099511628211) = p := ⟨_, rfl⟩
      have hp0 := (wrap64u (bits BinOp.xor IntKind.u64 m y * 1099511628211)).1
      have hp1 := (wrap64u (bits BinOp.xor IntKind.u64 m y * 1099511628211)).2
      rw [hp] at hp0 hp1
      go_wp2
      go_region
      go_wp2
      go_roundw
      case rel => exact ⟨k + 1, p, by go_num, by omega, hp0, hp1, heap_setCell_same _ _ 2 _ _ (.int .u64 p) HH.out, (hb.setCell (Nat.le_refl _) _).drew⟩
      case measure => simp [intOf]; omega
    · have HB := Lib.hid hb
      have hsz : w.heap.size < wr.heap.size := by
        rcases Nat.lt_or_ge w.heap.size wr.heap.size with h | h
        · exact h
        · have := HH.out
          simp [Array.getElem?_eq_none h] at this
      clear hb
      by_cases hz : 12 < (len : Int) / 20
      · have e3 : decide (12 < (len : Int) / 20) = true := by simp; omega
        have fin : ∀ u : World, u = (wr.setCell ⟨w.heap.size, 3, none⟩ (.int .i64 12)) → Src u w.heap.size a len cap ∧ Below w.heap.size w u := by
          rintro u rfl
          exact ⟨⟨0, m, 12, heap_setCell_same _ _ 3 _ _ (.int .i64 12) HH.out, by omega, by omega, hm0, hm1, by omega, by omega⟩, HB.out.setCell (Nat.le_refl _) _⟩
        have HF := Lib.hid fin
        clear fin
        by_cases h2 : k < len
        · have h3 : 64 ≤ k := by omega
          have e2 : decide ((k : Int) < 64) = false := by simp; omega
          clear h1
          go_wp2
          go_ret
          exact ⟨rfl, HF.out _ rfl⟩
        · have h3 : len ≤ k := by omega
          clear h1 h2
          go_wp2
          go_ret
          exact ⟨rfl, HF.out _ rfl⟩
      · have e3 : decide (12 < (len : Int) / 20) = false := by simp; omega
        have fin : ∀ u : World, u = (wr.setCell ⟨w.heap.size, 3, none⟩ (.int .i64 ((len : Int) / 20))) → Src u w.heap.size a len cap ∧ Below w.heap.size w u := by
          rintro u rfl
          exact ⟨⟨0, m, (len : Int) / 20, heap_setCell_same _ _ 3 _ _ (.int .i64 ((len : Int) / 20)) HH.out, by omega, by omega, hm0, hm1, by omega, by omega⟩, HB.out.setCell (Nat.le_refl _) _⟩
        have HF := Lib.hid fin
        clear fin
        by_cases h2 : k < len
        · have h3 : 64 ≤ k := by omega
          have e2 : decide ((k : Int) < 64) = false := by simp; omega
          clear h1
          go_wp2
          go_ret
          exact ⟨rfl, HF.out _ rfl⟩
        · have h3 : len ≤ k := by omega
          clear h1 h2
          go_wp2
          go_ret
          exact ⟨rfl, HF.out _ rfl⟩

theorem Src.lt {w : World} {S : Nat} {a : Option Addr} {len cap : Nat} (h : Src w S a len cap) : S < w.heap.size := by
  obtain ⟨k, m, z, hh, _⟩ := h
  rcases Nat.lt_or_ge S w.heap.size with h' | h'
  · exact h'
  · simp [Array.getElem?_eq_none h'] at hh
theorem Src.of_heap {w w' : World} {S : Nat} {a : Option Addr} {len cap : Nat} (h : Src w S a len cap) (he : w'.heap[S]? = w.heap[S]?) : Src w' S a len cap := by
  obtain ⟨k, m, z, hh, r⟩ := h
  exact ⟨k, m, z, he.trans hh, r⟩
theorem Src.alloc {w : World} {S : Nat} {a : Option Addr} {len cap : Nat} (h : Src w S a len cap) (o : Obj) : Src (w.alloc o) S a len cap := h.of_heap (Below.heap_alloc w o S h.lt)
theorem OwnsB.kept {w w' : World} {base S : Nat} {T : TypeId} {v : Value} {l : List UInt8} (h : OwnsB w base T v l) (hg : w.grownBy w' (some S)) (hS : S < base) : OwnsB w' base T v l := by
  refine World.ownsRow.kept h hg ?_
  rcases hv : v.ownBlock with _ | g
  · exact .inl rfl
  · refine .inr fun e => ?_
    have := (World.ownsRow.lt h g hv).1
    have : g = S := Option.some.inj e
    omega
/-- Behind an append to a row of the call's own: the source stays. -/
theorem Src.appended {w w' : World} {S base : Nat} {a : Option Addr} {len cap : Nat} {T : TypeId} {v : Value} {l : List UInt8} (h : Src w S a len cap) (ho : OwnsB w base T v l) (hg : w.grownBy w' v.ownBlock) (hS : S < base) : Src w' S a len cap := by
  refine h.of_heap (hg.block S h.lt fun e => ?_)
  have := (World.ownsRow.lt ho S e.symm).1
  omega
theorem grownBy_row {w0 w w' : World} {S base : Nat} {T : TypeId} {v : Value} {l : List UInt8} (h : w0.grownBy w (some S)) (ho : OwnsB w base T v l) (hg : w.grownBy w' v.ownBlock) (hb : w0.heap.size ≤ base) : w0.grownBy w' (some S) :=
  ⟨hg.os.trans h.os, hg.tape.trans h.tape, hg.output.trans h.output, Nat.le_trans h.size hg.size, fun k hk hne => (hg.block k (Nat.lt_of_lt_of_le hk h.size) fun e => by have := (World.ownsRow.lt ho k e.symm).1; omega).trans (h.block k hk hne)⟩

/-- A number at some limit. -/
def DrewE (S : Nat) (a : Option Addr) (len cap : Nat) (w : World) (e : Ending) (w' : World) : Prop :=
  ∃ v : Int, e = .returned (.int .i64 v) ∧ -9223372036854775808 ≤ v ∧ v ≤ 9223372036854775807 ∧ Src w' S a len cap ∧ w.grownBy w' (some S)


/-- What a law's shell says of a slice of bytes that came in, as the draws want it. -/
theorem rowIn_mk {w : World} {a : Option Addr} {len cap : Nat} {zs : List Int} (h : (a = none ∧ len = 0 ∧ cap = 0 ∧ zs = []) ∨
    ∃ x, a = some x ∧ len ≤ cap ∧ cap ≤ maxLen ∧ zs.length = cap ∧ (∀ i, i < zs.length → w.cell? (x.add i) = some (.int .u8 (zs.getD i 0))) ∧ ∀ n ∈ zs, (Lit.int .u8 n).wf = true) :
    RowIn w a len zs ∧ (0 < len → ∀ b o, a = some ⟨b, o, none⟩ → b < w.heap.size) := by
  rcases h with ⟨rfl, rfl, _, _⟩ | ⟨⟨b, o, sp⟩, rfl, hl, hm, hz, hc, hw⟩
  · exact ⟨.inl rfl, fun h => absurd h (by omega)⟩
  rcases Nat.eq_zero_or_pos len with h0 | h0
  · exact ⟨.inl h0, fun h => absurd h (by omega)⟩
  have c0 := hc 0 (by omega)
  have hsp : sp = none := by simpa [Addr.add] using World.cell?_spot c0
  subst hsp
  have hadd : ∀ i, (⟨b, o, none⟩ : Addr).add i = ⟨b, o + i, none⟩ := fun i => by unfold Addr.add; split <;> simp_all
  refine ⟨.inr ⟨b, o, rfl, by omega, fun i hi => by rw [← hadd]; exact hc i (by omega), fun i => ?_⟩, fun _ b' o' e => ?_⟩
  · rcases Nat.lt_or_ge i zs.length with h | h
    · have := hw _ (List.getElem_mem h)
      rw [List.getD_eq_getElem?_getD, List.getElem?_eq_getElem h]
      simpa using bounds_u8 this
    · rw [List.getD_eq_getElem?_getD, List.getElem?_eq_none h]
      simp
  · obtain ⟨rfl, rfl⟩ : b = b' ∧ o = o' := by simpa using e
    have := World.block_lt_of_cell? w _ (hc 0 (by omega))
    simpa [hadd] using this

/-- In the midst of a draw that began in w: block S is the source, the slice that came in reads as it did, nothing that was there is written. -/
structure Dr (w : World) (S : Nat) (a : Option Addr) (len cap : Nat) (zs : List Int) (u : World) : Prop where
  src : Src u S a len cap
  row : RowIn u a len zs
  below : Below w.heap.size w u
  lo : w.heap.size ≤ S
  args : 0 < len → ∀ b o, a = some ⟨b, o, none⟩ → b < w.heap.size
  few : len ≤ 1048576

section
variable {w u u' : World} {S : Nat} {a : Option Addr} {len cap : Nat} {zs : List Int}
theorem Dr.grown (h : Dr w S a len cap zs u) (hs : Src u' S a len cap) (hg : u.grownBy u' (some S)) : Dr w S a len cap zs u' :=
  have hb := h.below.grown hg h.below.size (fun k hk => by have := Option.some.inj hk; have := h.lo; omega)
  ⟨hs, h.row.kept (B := w.heap.size) ⟨hg.os, hg.tape, hg.output, hg.size, fun k hk => hg.block k (Nat.lt_of_lt_of_le hk h.below.size) fun e => by have := Option.some.inj e; have := h.lo; omega⟩ h.args, hb, h.lo, h.args, h.few⟩
theorem Dr.alloc (h : Dr w S a len cap zs u) (o : Obj) : Dr w S a len cap zs (u.alloc o) := h.grown (h.src.alloc o) (World.grownBy_alloc _ _ _)
theorem Dr.drew (h : Dr w S a len cap zs u) : Dr w S a len cap zs u.drew := ⟨h.src, h.row, h.below.drew, h.lo, h.args, h.few⟩
theorem Dr.drewN (h : Dr w S a len cap zs u) (n : Nat) : Dr w S a len cap zs (u.drewN n) := ⟨h.src, h.row, ⟨h.below.os, h.below.tape, h.below.output, h.below.size, h.below.block⟩, h.lo, h.args, h.few⟩
/-- Behind a call that only makes blocks. -/
theorem Dr.made (h : Dr w S a len cap zs u) (hb : Below u.heap.size u u') : Dr w S a len cap zs u' :=
  h.grown (h.src.of_heap (hb.block S h.src.lt)) ⟨hb.os, hb.tape, hb.output, hb.size, fun k hk _ => hb.block k hk⟩
/-- Behind an append to a row of the draw's own. -/
theorem Dr.appended (h : Dr w S a len cap zs u) {base : Nat} {T : TypeId} {size : Nat} {v : Value} {n : Nat} {xs : List Value} (ho : u.ownsRow base T size v n xs) (hg : u.grownBy u' v.ownBlock) (hS : S < base) : Dr w S a len cap zs u' := by
  have hne : ∀ k, k ≤ S → some k ≠ v.ownBlock := fun k hk e => by have := (World.ownsRow.lt ho k e.symm).1; omega
  refine ⟨h.src.of_heap (hg.block S h.src.lt (hne S (Nat.le_refl _))), h.row.kept (B := w.heap.size) ⟨hg.os, hg.tape, hg.output, hg.size, fun k hk => hg.block k (Nat.lt_of_lt_of_le hk h.below.size) (hne k ?_)⟩ h.args, ?_, h.lo, h.args, h.few⟩
  · have := h.lo; omega
  · exact h.below.grown hg h.below.size fun k hk => by have := (World.ownsRow.lt ho k hk).1; have := h.lo; omega

def NextN (w : World) (S : Nat) (a : Option Addr) (len cap : Nat) (zs : List Int) (most : Int) (u : World) (e : Ending) (u' : World) : Prop :=
  ∃ v : Int, e = .returned (.int .i64 v) ∧ 0 ≤ v ∧ (v < most ∨ v = 0) ∧ Dr w S a len cap zs u' ∧ u.grownBy u' (some S)
def NextB (w : World) (S : Nat) (a : Option Addr) (len cap : Nat) (zs : List Int) (u : World) (e : Ending) (u' : World) : Prop :=
  ∃ v : Bool, e = .returned (.bool v) ∧ Dr w S a len cap zs u' ∧ u.grownBy u' (some S)
def NextT (w : World) (S : Nat) (a : Option Addr) (len cap : Nat) (zs : List Int) (n : Int) (u : World) (e : Ending) (u' : World) : Prop :=
  ∃ l : List UInt8, (l.length : Int) = n ∧ e = .returned (.string ⟨l.toArray⟩) ∧ Dr w S a len cap zs u' ∧ u.grownBy u' (some S)
def NextE (w : World) (S : Nat) (a : Option Addr) (len cap : Nat) (zs : List Int) (u : World) (e : Ending) (u' : World) : Prop :=
  ∃ v : Int, e = .returned (.int .i64 v) ∧ -9223372036854775808 ≤ v ∧ v ≤ 9223372036854775807 ∧ Dr w S a len cap zs u' ∧ u.grownBy u' (some S)
def Begun (w : World) (a : Option Addr) (len cap : Nat) (zs : List Int) (e : Ending) (u : World) : Prop := e = .returned (.pointer (some ⟨w.heap.size, 0, none⟩)) ∧ Dr w w.heap.size a len cap zs u

theorem n_next (h : Dr w S a len cap zs u) (most : Int) (hm : most ≤ 9223372036854775807) :
    Calls Try.prog 56 #[.pointer (some ⟨S, 0, none⟩), .int .i64 most] u (NextN w S a len cap zs most u) :=
  (n_any S a len cap zs most u h.src h.row h.few hm).mono fun _ _ ⟨v, e, v0, v1, hs, hg⟩ => ⟨v, e, v0, v1, h.grown hs hg, hg⟩
theorem one_next (h : Dr w S a len cap zs u) (most : Int) (hm : most ≤ 9223372036854775807) :
    Calls Try.prog 55 #[.pointer (some ⟨S, 0, none⟩), .int .i64 most] u (NextB w S a len cap zs u) :=
  (one_any S a len cap zs most u h.src h.row h.few hm).mono fun _ _ ⟨v, e, hs, hg⟩ => ⟨v, e, h.grown hs hg, hg⟩
theorem source_next (hr : RowIn w a len zs) (hlen : len ≤ 1048576) (hba : 0 < len → ∀ b o, a = some ⟨b, o, none⟩ → b < w.heap.size) :
    Calls Try.prog 52 #[.slice a len cap] w (Begun w a len cap zs) :=
  (source_any a len cap zs w hr hlen hba).mono fun _ _ ⟨e, hs, hb⟩ => ⟨e, hs, hr.kept hb hba, hb, Nat.le_refl _, hba, hlen⟩
end
end Go.Proofs.Ytdhmcepnmbchkaa
