/- Several texts in one, each with its own head: what is proved, and of what, stands there. -/
import Derived.Test.YtioldepgoodipaaGreatNsA
import Derived.Test.YtioldepgoodipaaGreatNsB
import Derived.Laws.BitsAllLaws
import Derived.Laws.Shifts
import Derived.IntWalk
import Derived.Deep.RegionWith
import Derived.BigQuiet
import Derived.Deep.RegionHeld3
import Derived.WalkMore
namespace Go.Proofs.YtioldepgoodipaaGreat
open Go.RowKit
set_option linter.unusedVariables false

abbrev qC0 (p0 : Int) (p1 : Int) (p2 : Int) (p3 : Int) (p4 : Int) (p5 : ByteArray) (p6 : Int) : Array Value := #[.int .i64 p0, .int .i64 p1, .int .i64 p2, .int .i64 p3, .int .i64 p4, .string p5, .int .i64 p6]
abbrev qC1 : Array Value := #[.int .i64 0, .int .i64 0, .int .i64 0, .int .i64 0, .int .i64 0, .string ByteArray.empty, .int .i64 0]
abbrev qC2 (p0 : Int) (p1 : Int) (p2 : Int) (p3 : Int) (p4 : Int) (p5 : Int) (p6 : Int) (p7 : Bool) (p8 : Int) (p9 : Int) (p10 : Int) (p11 : Option Addr) (p12 : Nat) (p13 : Nat) (p14 : Option Addr) (p15 : Nat) (p16 : Nat) (p17 : Option Addr) (p18 : Nat) (p19 : Nat) (p20 : Option Addr) (p21 : Nat) (p22 : Nat) (p23 : Option Addr) (p24 : Nat) (p25 : Nat) (p26 : Int) : Array Value := #[.int .i64 p0, .int .i64 p1, .int .i64 p2, .int .i64 p3, .int .i64 p4, .int .i64 p5, .int .i64 p6, .bool p7, .int .i64 p8, .int .i64 p9, .int .i64 p10, .slice p11 p12 p13, .slice p14 p15 p16, .slice p17 p18 p19, .slice p20 p21 p22, .slice p23 p24 p25, .int .i64 p26]
abbrev qC3 : Array Value := #[.int .i64 0, .int .i64 0, .int .i64 0, .int .i64 0, .int .i64 0, .int .i64 0, .int .i64 0, .bool false, .int .i64 0, .int .i64 0, .int .i64 0, .slice none 0 0, .slice none 0 0, .slice none 0 0, .slice none 0 0, .slice none 0 0, .int .i64 0]
abbrev qC4 (p0 : Int) (p1 : Int) (p2 : Int) (p3 : Int) (p4 : Int) (p5 : Int) (p6 : Int) (p7 : Bool) (p8 : Int) (p9 : Int) (p10 : Int) (p11 : Option Addr) (p12 : Nat) (p13 : Nat) : Array Value := #[.int .i64 p0, .int .i64 p1, .int .i64 p2, .int .i64 p3, .int .i64 p4, .int .i64 p5, .int .i64 p6, .bool p7, .int .i64 p8, .int .i64 p9, .int .i64 p10, .slice p11 p12 p13, .slice none 0 0, .slice none 0 0, .slice none 0 0, .slice none 0 0, .int .i64 0]
abbrev qC5 (p0 : Int) (p1 : Int) (p2 : Int) (p3 : Int) (p4 : Int) (p5 : Int) (p6 : Int) (p7 : Bool) (p8 : Int) (p9 : Int) (p10 : Int) (p11 : Option Addr) (p12 : Nat) (p13 : Nat) (p14 : Option Addr) (p15 : Nat) (p16 : Nat) : Array Value := #[.int .i64 p0, .int .i64 p1, .int .i64 p2, .int .i64 p3, .int .i64 p4, .int .i64 p5, .int .i64 p6, .bool p7, .int .i64 p8, .int .i64 p9, .int .i64 p10, .slice p11 p12 p13, .slice p14 p15 p16, .slice none 0 0, .slice none 0 0, .slice none 0 0, .int .i64 0]
abbrev qC6 (p0 : Int) (p1 : Int) (p2 : Int) (p3 : Int) (p4 : Int) (p5 : Int) (p6 : Int) (p7 : Bool) (p8 : Int) (p9 : Int) (p10 : Int) (p11 : Option Addr) (p12 : Nat) (p13 : Nat) (p14 : Option Addr) (p15 : Nat) (p16 : Nat) (p17 : Option Addr) (p18 : Nat) (p19 : Nat) : Array Value := #[.int .i64 p0, .int .i64 p1, .int .i64 p2, .int .i64 p3, .int .i64 p4, .int .i64 p5, .int .i64 p6, .bool p7, .int .i64 p8, .int .i64 p9, .int .i64 p10, .slice p11 p12 p13, .slice p14 p15 p16, .slice p17 p18 p19, .slice none 0 0, .slice none 0 0, .int .i64 0]
abbrev qC7 (p0 : Int) (p1 : Int) (p2 : Int) (p3 : Int) (p4 : Int) (p5 : Int) (p6 : Int) (p7 : Bool) (p8 : Int) (p9 : Int) (p10 : Int) (p11 : Option Addr) (p12 : Nat) (p13 : Nat) (p14 : Option Addr) (p15 : Nat) (p16 : Nat) (p17 : Option Addr) (p18 : Nat) (p19 : Nat) (p20 : Option Addr) (p21 : Nat) (p22 : Nat) : Array Value := #[.int .i64 p0, .int .i64 p1, .int .i64 p2, .int .i64 p3, .int .i64 p4, .int .i64 p5, .int .i64 p6, .bool p7, .int .i64 p8, .int .i64 p9, .int .i64 p10, .slice p11 p12 p13, .slice p14 p15 p16, .slice p17 p18 p19, .slice p20 p21 p22, .slice none 0 0, .int .i64 0]
abbrev qC8 (p0 : Int) (p1 : Int) (p2 : Int) (p3 : Int) (p4 : Int) (p5 : Int) (p6 : Int) (p7 : Bool) (p8 : Int) (p9 : Int) (p10 : Int) (p11 : Option Addr) (p12 : Nat) (p13 : Nat) (p14 : Option Addr) (p15 : Nat) (p16 : Nat) (p17 : Option Addr) (p18 : Nat) (p19 : Nat) (p20 : Option Addr) (p21 : Nat) (p22 : Nat) (p23 : Option Addr) (p24 : Nat) (p25 : Nat) (p26 : Int) (p27 : Int) : Array Value := #[.int .i64 p0, .int .i64 p1, .int .i64 p2, .int .i64 p3, .int .i64 p4, .int .i64 p5, .int .i64 p6, .bool p7, .int .i64 p8, .int .i64 p9, .int .i64 p10, .slice p11 p12 p13, .slice p14 p15 p16, .slice p17 p18 p19, .slice p20 p21 p22, .slice p23 p24 p25, .int .i64 p26, .int .i64 p27]
abbrev qC9 (p0 : Option Addr) : Array Value := #[.int .i64 127250, .int .i64 8, .int .i64 2, .slice p0 5 5]
abbrev qC10 (p0 : Option Addr) : Array Value := #[.int .i64 127488, .int .i64 8, .int .i64 2, .slice p0 4 4]
abbrev qC11 (p0 : Option Addr) : Array Value := #[.int .i64 128267, .int .i64 8, .int .i64 3, .slice p0 4 4]
abbrev qC12 (p0 : Option Addr) : Array Value := #[.int .i64 128275, .int .i64 14, .int .i64 6, .slice p0 4 4]
abbrev qC13 (p0 : Option Addr) : Array Value := #[.int .i64 129025, .int .i64 8, .int .i64 2, .slice p0 2 2]
abbrev qC14 (p0 : Option Addr) : Array Value := #[.int .i64 130306, .int .i64 8, .int .i64 2, .slice p0 4 4]
theorem qCm3 {α : Type _} {a0 a1 a2 a3 : α} {l : List α} : a3 ∈ a0 :: a1 :: a2 :: a3 :: l := (.tail _ (.tail _ (.tail _ (.head _))))
theorem qCm2 {α : Type _} {a0 a1 a2 : α} {l : List α} : a2 ∈ a0 :: a1 :: a2 :: l := (.tail _ (.tail _ (.head _)))
theorem qCm1 {α : Type _} {a0 a1 : α} {l : List α} : a1 ∈ a0 :: a1 :: l := (.tail _ (.head _))
theorem qCf {α : Type _} {p : α → Prop} {a : α} {l : List α} (h : p a ∧ ∀ x ∈ l, p x) : ∀ x ∈ a :: l, p x := List.forall_mem_cons.2 h
def olderS (x : Se) : Se := ⟨x.src, x.pgn, x.sq, x.nx, x.sz, x.dt, x.ag + 1⟩
def tickL (l : List Se) : List Se := (l.filter fun x => decide (x.ag < 750)).map olderS
def tickT (l : List Se) : List Se := if tabB l = true then tickL l else []
theorem joinedE_any (b : ByteArray) (w : World) (hb : b.size ≤ 1000000) :
  Calls Tryz.prog 170 #[.string ByteArray.empty, .string b] w fun e w' => e = .returned (.string b) ∧ Below w.heap.size w w' :=
 (joined_any ByteArray.empty b w (by decide) hb).mono fun e w' ⟨h1, h2⟩ => ⟨by rw [h1]; rfl, h2⟩
set_option maxRecDepth 100000 in
set_option maxHeartbeats 2000000 in
theorem freshSession_any (x : Se) (w : World) (hb : x.dt.size ≤ 1000000) :
  Calls Tryz.prog 148 #[.agg (seL x).toArray] w fun e w' => e = .returned (.agg (seL x).toArray) ∧ Below w.heap.size w w' := by
 obtain ⟨src, pgn, sq, nx, sz, dt, ag⟩ := x
 unfold seL
 dsimp only at *
 go_enter Tryz.func148, Tryz.ntmps148
 go_wp2_with (first
  | (refine wpList_box_h rfl 159 (.tmp 0) rfl #[.int .i64 src, .int .i64 pgn, .int .i64 sq, .int .i64 nx, .int .i64 sz, .string dt, .int .i64 ag] rfl ?_; intro w1 R1 e1 g1 b1; have HL1 := Lib.hid (show Lg w w1 [(R1, (qC0 src pgn sq nx sz dt ag), 159)] [] from (Lg.first w).box e1 g1 b1); clear g1 b1 e1)
  | (refine wpList_alloc_h rfl 159 rfl (.agg #[.int .i64 0, .int .i64 0, .int .i64 0, .int .i64 0, .int .i64 0, .string ByteArray.empty, .int .i64 0]) (by kernel_rfl) #[.int .i64 0, .int .i64 0, .int .i64 0, .int .i64 0, .int .i64 0, .string ByteArray.empty, .int .i64 0] rfl ?_; intro w2 R2 e2 g2 b2; have qR2_R1 : R1 < R2 := Nat.lt_of_lt_of_eq (HL1.out.lt (.head _)) e2; have HL2 := Lib.hid (show Lg w w2 [(R2, (qC1), 159), (R1, (qC0 src pgn sq nx sz dt ag), 159)] [] from HL1.out.box e2 g2 b2); clear g2 b2 e2)
  | (refine wpList_load_one rfl 9 (.tmp 3) rfl (R1) 5 rfl 159 (qC0 src pgn sq nx sz dt ag) (0, 0) (HL2.out.get qCm1) (.string dt) rfl _ Tryz.underlying9 rfl (by kernel_rfl) ?_))
 refine (joinedE_any dt _ hb).mono ?_
 rintro e w3 ⟨rfl, h⟩
 have HL3 := Lib.hid (show Lg w w3 [(R2, (qC1), 159), (R1, (qC0 src pgn sq nx sz dt ag), 159)] [] from HL2.out.kept h)
 clear h
 go_wp2_with (first
  | (refine wpList_put_at rfl 9 (.tmp 6) (.tmp 5) rfl rfl (R1) 5 rfl (.string dt) rfl #[.string dt] rfl 159 (qC0 src pgn sq nx sz dt ag) (qC0 src pgn sq nx sz dt ag) (HL3.out.get qCm1) (by kernel_rfl) (by kernel_rfl) (by kernel_rfl) (by kernel_rfl) ?_; intro w4 g4 o4; have HL4 := Lib.hid (show Lg w w4 [(R2, (qC1), 159), (R1, (qC0 src pgn sq nx sz dt ag), 159)] [] from HL3.out.put 1 rfl g4 o4 (qCf ⟨Nat.ne_of_gt qR2_R1, (fun _ h => nomatch h)⟩) (fun _ h => nomatch h) rfl); clear g4 o4)
  | (refine wpList_load_at rfl 159 (.tmp 1) rfl (R1) 0 rfl 159 (qC0 src pgn sq nx sz dt ag) (0, 0) (HL4.out.get qCm1) [.int .i64 src, .int .i64 pgn, .int .i64 sq, .int .i64 nx, .int .i64 sz, .string dt, .int .i64 ag] rfl _ Tryz.underlying159 rfl (by kernel_rfl) ?_)
  | (refine wpList_put_at rfl 159 (.tmp 2) (.tmp 7) rfl rfl (R2) 0 rfl _ rfl #[.int .i64 src, .int .i64 pgn, .int .i64 sq, .int .i64 nx, .int .i64 sz, .string dt, .int .i64 ag] rfl 159 (qC1) (qC0 src pgn sq nx sz dt ag) (HL4.out.get (.head _)) (by kernel_rfl) (by kernel_rfl) (by kernel_rfl) (by kernel_rfl) ?_; intro w5 g5 o5; have HL5 := Lib.hid (show Lg w w5 [(R2, (qC0 src pgn sq nx sz dt ag), 159), (R1, (qC0 src pgn sq nx sz dt ag), 159)] [] from HL4.out.put 0 rfl g5 o5 (qCf ⟨Nat.ne_of_lt qR2_R1, (fun _ h => nomatch h)⟩) (fun _ h => nomatch h) rfl); clear g5 o5))
 exact bodyPost_ret (results_cell_row (p := 2) (ty := 159) (by kernel_rfl) _ _ (R2) 159 _ (0, 0) _ rfl (HL5.out.get (.head _)) Tryz.underlying159 rfl (by kernel_rfl)) rfl ⟨rfl, HL5.out.below⟩
def TabOut (w : World) (l : List Se) (e : Ending) (w' : World) : Prop :=
 ∃ a cap, e = .returned (.slice a l.length cap) ∧ RsNew seL 7 159 w.heap.size w'.heap.size w' a l ∧ Below w.heap.size w w'
end Go.Proofs.YtioldepgoodipaaGreat
namespace Go.Proofs.YtioldepgoodipaaGreat
open Go.RowKit
set_option linter.unusedVariables false

def markSe (q : Nat) : Se := ⟨((q : Nat) : Int), ((q + 1 : Nat) : Int), ((q + 2 : Nat) : Int), ((q + 3 : Nat) : Int), ((q + 4 : Nat) : Int), markT (q + 5), ((q + 6 : Nat) : Int)⟩
def marksSe (k n : Nat) : List Se := (List.range n).map fun i => markSe (k + 7 * i)
theorem marksSe_length (k n : Nat) : (marksSe k n).length = n := by simp [marksSe]
theorem marksSe_at {k n i : Nat} {x : Se} (h : (marksSe k n)[i]? = some x) : i < n ∧ x = markSe (k + 7 * i) := by
 unfold marksSe at h
 rw [List.getElem?_map] at h
 obtain ⟨j, hj, rfl⟩ := Option.map_eq_some_iff.1 h
 obtain ⟨hi, rfl⟩ := List.getElem?_eq_some_iff.1 hj
 have hi' : i < n := by simpa using hi
 simp [hi']
theorem marksSe_get {k n i : Nat} (h : i < n) : (marksSe k n)[i]? = some (markSe (k + 7 * i)) := by
 unfold marksSe
 rw [List.getElem?_map, List.getElem?_range h]
 rfl

set_option maxRecDepth 100000 in
set_option maxHeartbeats 8000000 in
theorem markSessionS_any {lo hi : Nat} (a : Option Addr) (cap : Nat) (l : List Se) (k : Nat) (w : World) (h : RsNew seL 7 159 lo hi w a l) (hk0 : 0 < k) (hk : k + 7 * l.length ≤ 30000000) :
  Calls Tryz.prog 59 #[.slice a l.length cap, .int .i64 (k : Int)] w fun e w' => e = .returned (.int .i64 ((k + 7 * l.length : Nat) : Int)) ∧ RsNew seL 7 159 lo hi w' a (marksSe k l.length) ∧ Out lo hi w w' := by
 obtain ⟨N, hN⟩ : ∃ N, l.length = N := ⟨_, rfl⟩
 have HN := Lib.hid hN
 rcases Nat.eq_zero_or_pos N with hN0 | hN0
 ·rw [hN]
  subst hN0
  clear hN h
  go_enter Tryz.func59, Tryz.ntmps59
  go_wp2
  refine wp_loop_rounds 1 ?_
  rw [rounds_succ]; go_wp2
  go_ret
  exact ⟨rfl, .inl (by first | rfl | (simp [marksSe])), Out.refl _ _ _⟩
 obtain ⟨b, o, row0, rfl, hlo, hhi, hg0, hs0⟩ : ∃ b o row, a = some ⟨b, o, none⟩ ∧ lo ≤ b ∧ b < hi ∧ w.heap[b]? = some (.cells row 159 (0, 0)) ∧ o + N * 7 ≤ row.size := by
  rcases h with h | ⟨b, o, row, h1, h2, h3, h4, h5, h6⟩
  ·rw [h] at hN
   simp at hN
   omega
  ·rw [hN] at h5
   exact ⟨b, o, row, h1, h2, h3, h4, h5⟩
 have HG0 := Lib.hid hg0
 have hN8 : N ≤ 30000000 := by omega
 have HS0 := Lib.hid hs0
 rw [hN] at hk ⊢
 clear hN h hg0 hs0
 go_enter Tryz.func59, Tryz.ntmps59
 go_wp2_with fail
 go_loopw [1, 5] (fun u i wr => ∃ (m : Nat) (row : Array Value), i = .int .i64 (m : Int) ∧ u = .int .i64 ((k + 7 * m : Nat) : Int) ∧ m ≤ N ∧ Out lo hi w wr ∧ wr.heap[b]? = some (.cells row 159 (0, 0)) ∧ o + N * 7 ≤ row.size ∧
  (∀ j, j < m → ∀ c v, (seL (markSe (k + 7 * j)))[c]? = some v → row[o + j * 7 + c]? = some v)) (fun _ i _ => N - (intOf i).toNat)
 case atStart => exact ⟨0, row0, rfl, rfl, by omega, Out.refl _ _ _, HG0.out, HS0.out, fun j hj => absurd hj (by omega)⟩
 case round =>
  obtain ⟨m, row, rfl, rfl, hm, hb, hgr, hrs, hdone⟩ := hrel
  have HD := Lib.hid hdone
  have HA := Lib.hid hgr
  have HB := Lib.hid hb
  have HRS := Lib.hid hrs
  clear hdone hgr hb HG0 HS0
  by_cases hmn : m < N
  ·have hi1 : (0 : Int) ≤ (m : Int) := by omega
   have hi2 : (m : Int) < (N : Int) := by omega
   have hq : k + 7 * m + 7 ≤ 30000000 := by omega
   have hroom : o + m * 7 + 7 ≤ row.size := by omega
   have HK := Lib.hid (show k + 7 * (m + 1) = k + 7 * m + 7 by omega)
   obtain ⟨q, eq⟩ : ∃ q, k + 7 * m = q := ⟨_, rfl⟩
   have hq0 : 0 < q := by omega
   have HQ := Lib.hid eq
   rw [eq] at hq HK ⊢
   clear eq
   have HM := fun W => Lib.hid (markText_any (q + 5) W (by omega) (by omega))
   have w0_ : IntKind.i64.wrap (((q : Nat) : Int) + 1) = ((q + 1 : Nat) : Int) := by rw [IntWalk.i64_in _ (by omega)]; omega
   have w1_ : IntKind.i64.wrap (((q + 1 : Nat) : Int) + 1) = ((q + 2 : Nat) : Int) := by rw [IntWalk.i64_in _ (by omega)]; omega
   have w2_ : IntKind.i64.wrap (((q + 2 : Nat) : Int) + 1) = ((q + 3 : Nat) : Int) := by rw [IntWalk.i64_in _ (by omega)]; omega
   have w3_ : IntKind.i64.wrap (((q + 3 : Nat) : Int) + 1) = ((q + 4 : Nat) : Int) := by rw [IntWalk.i64_in _ (by omega)]; omega
   have w4_ : IntKind.i64.wrap (((q + 4 : Nat) : Int) + 1) = ((q + 5 : Nat) : Int) := by rw [IntWalk.i64_in _ (by omega)]; omega
   have w5_ : IntKind.i64.wrap (((q + 5 : Nat) : Int) + 1) = ((q + 6 : Nat) : Int) := by rw [IntWalk.i64_in _ (by omega)]; omega
   have w6_ : IntKind.i64.wrap (((q + 6 : Nat) : Int) + 1) = ((q + 7 : Nat) : Int) := by rw [IntWalk.i64_in _ (by omega)]; omega
   generalize e1_ : q + 1 = q1 at *
   generalize e2_ : q + 2 = q2 at *
   generalize e3_ : q + 3 = q3 at *
   generalize e4_ : q + 4 = q4 at *
   generalize e5_ : q + 5 = q5 at *
   generalize e6_ : q + 6 = q6 at *
   generalize e7_ : q + 7 = q7 at *
   obtain ⟨tx, etx⟩ : ∃ tx, markT q5 = tx := ⟨_, rfl⟩
   rw [etx] at HM
   obtain ⟨p0, ep0⟩ : ∃ p, o + m * 7 = p := ⟨_, rfl⟩
   have HP := Lib.hid ep0
   obtain ⟨r1, er1⟩ : ∃ r, setAll row (p0) [.int .i64 (q : Int)] = r := ⟨_, rfl⟩
   have sr1 : r1.size = row.size := by rw [← er1, setAll_size]
   obtain ⟨r2, er2⟩ : ∃ r, setAll r1 (p0 + 1) [.int .i64 (q1 : Int)] = r := ⟨_, rfl⟩
   have sr2 : r2.size = row.size := by rw [← er2, setAll_size, sr1]
   obtain ⟨r3, er3⟩ : ∃ r, setAll r2 (p0 + 2) [.int .i64 (q2 : Int)] = r := ⟨_, rfl⟩
   have sr3 : r3.size = row.size := by rw [← er3, setAll_size, sr2]
   obtain ⟨r4, er4⟩ : ∃ r, setAll r3 (p0 + 3) [.int .i64 (q3 : Int)] = r := ⟨_, rfl⟩
   have sr4 : r4.size = row.size := by rw [← er4, setAll_size, sr3]
   obtain ⟨r5, er5⟩ : ∃ r, setAll r4 (p0 + 4) [.int .i64 (q4 : Int)] = r := ⟨_, rfl⟩
   have sr5 : r5.size = row.size := by rw [← er5, setAll_size, sr4]
   obtain ⟨r6, er6⟩ : ∃ r, setAll r5 (p0 + 5) [.string tx] = r := ⟨_, rfl⟩
   have sr6 : r6.size = row.size := by rw [← er6, setAll_size, sr5]
   obtain ⟨r7, er7⟩ : ∃ r, setAll r6 (p0 + 6) [.int .i64 (q6 : Int)] = r := ⟨_, rfl⟩
   have sr7 : r7.size = row.size := by rw [← er7, setAll_size, sr6]
   have HER := Lib.hid (And.intro er1 (And.intro er2 (And.intro er3 (And.intro er4 (And.intro er5 (And.intro er6 er7))))))
   rw [ep0] at hroom
   have k0 : Nat.ble (p0 + 1) row.size = true := Nat.ble_eq_true_of_le (by omega)
   have k1 : Nat.ble (p0 + 1 + 1) r1.size = true := Nat.ble_eq_true_of_le (by omega)
   have k2 : Nat.ble (p0 + 2 + 1) r2.size = true := Nat.ble_eq_true_of_le (by omega)
   have k3 : Nat.ble (p0 + 3 + 1) r3.size = true := Nat.ble_eq_true_of_le (by omega)
   have k4 : Nat.ble (p0 + 4 + 1) r4.size = true := Nat.ble_eq_true_of_le (by omega)
   have k5 : Nat.ble (p0 + 5 + 1) r5.size = true := Nat.ble_eq_true_of_le (by omega)
   have k6 : Nat.ble (p0 + 6 + 1) r6.size = true := Nat.ble_eq_true_of_le (by omega)
   have hE1 := And.intro e1_ (And.intro e2_ (And.intro e3_ (And.intro e4_ (And.intro e5_ (And.intro e6_ e7_)))))
   have HE := Lib.hid hE1
   have HTX := Lib.hid etx
   clear er1 er2 er3 er4 er5 er6 er7 e1_ e2_ e3_ e4_ e5_ e6_ e7_ hE1 etx hrs hk hroom hq sr1 sr2 sr3 sr4 sr5 sr6
   clear ep0
   go_wp2_with (first
    | (refine wpList_put_at rfl 2 (.tmp 16) (.tmp 14) rfl rfl b (o + m * 7) rfl (.int .i64 (q : Int)) rfl #[.int .i64 (q : Int)] rfl 159 row r1 HA.out (by kernel_rfl) (by rw [HP.out]; exact k0) rfl (by rw [HP.out]; exact HER.out.1) ?_; intro x1 g0 o0; have HA1 := Lib.hid g0; have HB1 := Lib.hid (HB.out.trans (o0.widen hlo hhi)); clear g0 o0)
    | (refine wpList_put_at rfl 2 (.tmp 23) (.tmp 21) rfl rfl b (o + m * 7 + 1) rfl (.int .i64 (q1 : Int)) rfl #[.int .i64 (q1 : Int)] rfl 159 r1 r2 HA1.out (by kernel_rfl) (by rw [HP.out]; exact k1) rfl (by rw [HP.out]; exact HER.out.2.1) ?_; intro x2 g1 o1; have HA2 := Lib.hid g1; have HB2 := Lib.hid (HB1.out.trans (o1.widen hlo hhi)); clear g1 o1)
    | (refine wpList_put_at rfl 2 (.tmp 30) (.tmp 28) rfl rfl b (o + m * 7 + 2) rfl (.int .i64 (q2 : Int)) rfl #[.int .i64 (q2 : Int)] rfl 159 r2 r3 HA2.out (by kernel_rfl) (by rw [HP.out]; exact k2) rfl (by rw [HP.out]; exact HER.out.2.2.1) ?_; intro x3 g2 o2; have HA3 := Lib.hid g2; have HB3 := Lib.hid (HB2.out.trans (o2.widen hlo hhi)); clear g2 o2)
    | (refine wpList_put_at rfl 2 (.tmp 37) (.tmp 35) rfl rfl b (o + m * 7 + 3) rfl (.int .i64 (q3 : Int)) rfl #[.int .i64 (q3 : Int)] rfl 159 r3 r4 HA3.out (by kernel_rfl) (by rw [HP.out]; exact k3) rfl (by rw [HP.out]; exact HER.out.2.2.2.1) ?_; intro x4 g3 o3; have HA4 := Lib.hid g3; have HB4 := Lib.hid (HB3.out.trans (o3.widen hlo hhi)); clear g3 o3)
    | (refine wpList_put_at rfl 2 (.tmp 44) (.tmp 42) rfl rfl b (o + m * 7 + 4) rfl (.int .i64 (q4 : Int)) rfl #[.int .i64 (q4 : Int)] rfl 159 r4 r5 HA4.out (by kernel_rfl) (by rw [HP.out]; exact k4) rfl (by rw [HP.out]; exact HER.out.2.2.2.2.1) ?_; intro x5 g4 o4; have HA5 := Lib.hid g4; have HB5 := Lib.hid (HB4.out.trans (o4.widen hlo hhi)); clear g4 o4))
   refine (HM _).out.mono ?_
   rintro e x5b ⟨rfl, h5⟩
   have HA5b := Lib.hid ((h5.block b (Array.getElem?_eq_some_iff.1 HA5.out).1).trans HA5.out)
   have HB5b := Lib.hid (HB5.out.trans (Out.of_below h5))
   clear h5 HA HB HA1 HB1 HA2 HB2 HA3 HB3 HA4 HB4 HA5 HB5
   go_wp2_with (first
    | (refine wpList_put_at rfl 9 (.tmp 52) (.tmp 50) rfl rfl b (o + m * 7 + 5) rfl (.string tx) rfl #[.string tx] rfl 159 r5 r6 HA5b.out (by kernel_rfl) (by rw [HP.out]; exact k5) rfl (by rw [HP.out]; exact HER.out.2.2.2.2.2.1) ?_; intro x6 g5 o5; have HA6 := Lib.hid g5; have HB6 := Lib.hid (HB5b.out.trans (o5.widen hlo hhi)); clear g5 o5)
    | (refine wpList_put_at rfl 2 (.tmp 59) (.tmp 57) rfl rfl b (o + m * 7 + 6) rfl (.int .i64 (q6 : Int)) rfl #[.int .i64 (q6 : Int)] rfl 159 r6 r7 HA6.out (by kernel_rfl) (by rw [HP.out]; exact k6) rfl (by rw [HP.out]; exact HER.out.2.2.2.2.2.2) ?_; intro x7 g6 o6; have HA7 := Lib.hid g6; have HB7 := Lib.hid (HB6.out.trans (o6.widen hlo hhi)); clear g6 o6))
   go_roundw
   case rel =>
    refine ⟨m + 1, r7, by go_num, by rw [HK.out], by omega, HB7.out, HA7.out, by rw [sr7]; exact HRS.out, fun j hj c v hv => ?_⟩
    obtain ⟨E1, E2, E3, E4, E5, E6, E7⟩ := HER.out
    obtain ⟨F1, F2, F3, F4, F5, F6, F7⟩ := HE.out
    have hp := HP.out
    have hrs2 := HRS.out
    have hc7 : c < 7 := by
     have := (List.getElem?_eq_some_iff.1 hv).1
     rwa [seL_len] at this
    rcases Nat.lt_or_ge j m with h | h
    ·have hlt : o + j * 7 + c < p0 := by omega
     rw [← E7, setAll_off _ _ _ _ (.inl (by omega)), ← E6, setAll_off _ _ _ _ (.inl (by omega)), ← E5, setAll_off _ _ _ _ (.inl (by omega)), ← E4, setAll_off _ _ _ _ (.inl (by omega)), ← E3, setAll_off _ _ _ _ (.inl (by omega)), ← E2, setAll_off _ _ _ _ (.inl (by omega)), ← E1, setAll_off _ _ _ _ (.inl (by omega))]
     exact HD.out j h c v hv
    ·obtain rfl : j = m := by omega
     rw [HQ.out] at hv
     unfold markSe seL at hv
     dsimp only at hv
     rw [F1, F2, F3, F4, F5, F6, HTX.out] at hv
     rw [hp]
     have z : ∀ (rr : Array Value) (p : Nat) (u : Value), p < rr.size → (setAll rr p [u])[p]? = some u := fun rr p u hp => by
      have := setAll_at [u] rr p 0 u (by show p + 1 ≤ _; omega) rfl
      simpa using this
     have y : ∀ (rr : Array Value) (p p' : Nat) (u : Value), p' < p → (setAll rr p [u])[p']? = rr[p']? := fun rr p p' u hp => setAll_off _ _ _ _ (.inl hp)
     rcases c with _ | _ | _ | _ | _ | _ | _ | c
     ·simp at hv
      subst hv
      rw [← E7, y _ _ _ _ (by omega), ← E6, y _ _ _ _ (by omega), ← E5, y _ _ _ _ (by omega), ← E4, y _ _ _ _ (by omega), ← E3, y _ _ _ _ (by omega), ← E2, y _ _ _ _ (by omega), ← E1]
      exact z _ _ _ (by have a0 := congrArg Array.size E1; have a1 := congrArg Array.size E2; have a2 := congrArg Array.size E3; have a3 := congrArg Array.size E4; have a4 := congrArg Array.size E5; have a5 := congrArg Array.size E6; have a6 := congrArg Array.size E7; rw [setAll_size] at a0 a1 a2 a3 a4 a5 a6; omega)
     ·simp at hv
      subst hv
      rw [← E7, y _ _ _ _ (by omega), ← E6, y _ _ _ _ (by omega), ← E5, y _ _ _ _ (by omega), ← E4, y _ _ _ _ (by omega), ← E3, y _ _ _ _ (by omega), ← E2]
      exact z _ _ _ (by have a0 := congrArg Array.size E1; have a1 := congrArg Array.size E2; have a2 := congrArg Array.size E3; have a3 := congrArg Array.size E4; have a4 := congrArg Array.size E5; have a5 := congrArg Array.size E6; have a6 := congrArg Array.size E7; rw [setAll_size] at a0 a1 a2 a3 a4 a5 a6; omega)
     ·simp at hv
      subst hv
      rw [← E7, y _ _ _ _ (by omega), ← E6, y _ _ _ _ (by omega), ← E5, y _ _ _ _ (by omega), ← E4, y _ _ _ _ (by omega), ← E3]
      exact z _ _ _ (by have a0 := congrArg Array.size E1; have a1 := congrArg Array.size E2; have a2 := congrArg Array.size E3; have a3 := congrArg Array.size E4; have a4 := congrArg Array.size E5; have a5 := congrArg Array.size E6; have a6 := congrArg Array.size E7; rw [setAll_size] at a0 a1 a2 a3 a4 a5 a6; omega)
     ·simp at hv
      subst hv
      rw [← E7, y _ _ _ _ (by omega), ← E6, y _ _ _ _ (by omega), ← E5, y _ _ _ _ (by omega), ← E4]
      exact z _ _ _ (by have a0 := congrArg Array.size E1; have a1 := congrArg Array.size E2; have a2 := congrArg Array.size E3; have a3 := congrArg Array.size E4; have a4 := congrArg Array.size E5; have a5 := congrArg Array.size E6; have a6 := congrArg Array.size E7; rw [setAll_size] at a0 a1 a2 a3 a4 a5 a6; omega)
     ·simp at hv
      subst hv
      rw [← E7, y _ _ _ _ (by omega), ← E6, y _ _ _ _ (by omega), ← E5]
      exact z _ _ _ (by have a0 := congrArg Array.size E1; have a1 := congrArg Array.size E2; have a2 := congrArg Array.size E3; have a3 := congrArg Array.size E4; have a4 := congrArg Array.size E5; have a5 := congrArg Array.size E6; have a6 := congrArg Array.size E7; rw [setAll_size] at a0 a1 a2 a3 a4 a5 a6; omega)
     ·simp at hv
      subst hv
      rw [← E7, y _ _ _ _ (by omega), ← E6]
      exact z _ _ _ (by have a0 := congrArg Array.size E1; have a1 := congrArg Array.size E2; have a2 := congrArg Array.size E3; have a3 := congrArg Array.size E4; have a4 := congrArg Array.size E5; have a5 := congrArg Array.size E6; have a6 := congrArg Array.size E7; rw [setAll_size] at a0 a1 a2 a3 a4 a5 a6; omega)
     ·simp at hv
      subst hv
      rw [← E7]
      exact z _ _ _ (by have a0 := congrArg Array.size E1; have a1 := congrArg Array.size E2; have a2 := congrArg Array.size E3; have a3 := congrArg Array.size E4; have a4 := congrArg Array.size E5; have a5 := congrArg Array.size E6; have a6 := congrArg Array.size E7; rw [setAll_size] at a0 a1 a2 a3 a4 a5 a6; omega)
     ·omega
   case measure => simp [intOf]; omega
  ·have hge : N ≤ m := by omega
   go_wp2_with fail
   go_ret
   exact ⟨by rw [show N = m by omega]; rfl, .inr ⟨b, o, row, rfl, hlo, hhi, HA.out, by rw [marksSe_length]; exact hrs, fun i x hx c v hv => by
    obtain ⟨hi, rfl⟩ := marksSe_at hx
    exact HD.out i (by omega) c v hv⟩, HB.out⟩
set_option maxRecDepth 100000 in
set_option maxHeartbeats 8000000 in
theorem heldSessionS_any {lo hi : Nat} (a : Option Addr) (cap : Nat) (N : Nat) (k : Nat) (w : World) (h : RsNew seL 7 159 lo hi w a (marksSe k N)) (hk0 : 0 < k) (hk : k + 7 * N ≤ 30000000) :
  Calls Tryz.prog 118 #[.slice a N cap, .int .i64 (k : Int)] w fun e w' => e = .returned (.int .i64 ((k + 7 * N : Nat) : Int)) ∧ Below w.heap.size w w' := by
 have HI := Lib.hid h
 have hN8 : N ≤ 30000000 := by omega
 clear h
 go_enter Tryz.func118, Tryz.ntmps118
 go_wp2_with fail
 go_loopw [1, 5] (fun u i wr => ∃ m : Nat, i = .int .i64 (m : Int) ∧ u = .int .i64 ((k + 7 * m : Nat) : Int) ∧ m ≤ N ∧ Below w.heap.size w wr) (fun _ i _ => N - (intOf i).toNat)
 case atStart => exact ⟨0, rfl, rfl, by omega, Below.refl _ _⟩
 case round =>
  obtain ⟨m, rfl, rfl, hm, hb⟩ := hrel
  by_cases hmn : m < N
  ·obtain ⟨b, o, row, rfl, _, _, hg, _, hc⟩ : ∃ b o row, a = some ⟨b, o, none⟩ ∧ lo ≤ b ∧ b < hi ∧ w.heap[b]? = some (.cells row 159 (0, 0)) ∧ o + (marksSe k N).length * 7 ≤ row.size ∧ ∀ (i : Nat) x, (marksSe k N)[i]? = some x → ∀ (j : Nat) v, (seL x)[j]? = some v → row[o + i * 7 + j]? = some v := by
    rcases HI.out with h | h
    ·have := marksSe_length k N
     rw [h] at this
     simp at this
     omega
    ·exact h
   have hx := hc m _ (marksSe_get hmn)
   have hgw := (hb.block b (Array.getElem?_eq_some_iff.1 hg).1).trans hg
   have HG := Lib.hid hgw
   have hi1 : (0 : Int) ≤ (m : Int) := by omega
   have hi2 : (m : Int) < (N : Int) := by omega
   have HK := Lib.hid (show k + 7 * (m + 1) = k + 7 * m + 7 by omega)
   have hq : k + 7 * m + 7 ≤ 30000000 := by omega
   obtain ⟨q, eq⟩ : ∃ q, k + 7 * m = q := ⟨_, rfl⟩
   have hq0 : 0 < q := by omega
   rw [eq] at hq HK hx ⊢
   have HM := fun W => Lib.hid (markText_any (q + 5) W (by omega) (by omega))
   unfold markSe seL at hx
   dsimp only at hx
   have c0 := hx 0 _ rfl
   have c1 := hx 1 _ rfl
   have c2 := hx 2 _ rfl
   have c3 := hx 3 _ rfl
   have c4 := hx 4 _ rfl
   have c5 := hx 5 _ rfl
   have c6 := hx 6 _ rfl
   have w0_ : IntKind.i64.wrap (((q : Nat) : Int) + 1) = ((q + 1 : Nat) : Int) := by rw [IntWalk.i64_in _ (by omega)]; omega
   have w1_ : IntKind.i64.wrap (((q + 1 : Nat) : Int) + 1) = ((q + 2 : Nat) : Int) := by rw [IntWalk.i64_in _ (by omega)]; omega
   have w2_ : IntKind.i64.wrap (((q + 2 : Nat) : Int) + 1) = ((q + 3 : Nat) : Int) := by rw [IntWalk.i64_in _ (by omega)]; omega
   have w3_ : IntKind.i64.wrap (((q + 3 : Nat) : Int) + 1) = ((q + 4 : Nat) : Int) := by rw [IntWalk.i64_in _ (by omega)]; omega
   have w4_ : IntKind.i64.wrap (((q + 4 : Nat) : Int) + 1) = ((q + 5 : Nat) : Int) := by rw [IntWalk.i64_in _ (by omega)]; omega
   have w5_ : IntKind.i64.wrap (((q + 5 : Nat) : Int) + 1) = ((q + 6 : Nat) : Int) := by rw [IntWalk.i64_in _ (by omega)]; omega
   have w6_ : IntKind.i64.wrap (((q + 6 : Nat) : Int) + 1) = ((q + 7 : Nat) : Int) := by rw [IntWalk.i64_in _ (by omega)]; omega
   clear hx hc hg hgw hk hq hq0 eq
   rw [Nat.add_zero] at c0
   generalize q + 1 = q1 at *
   generalize q + 2 = q2 at *
   generalize q + 3 = q3 at *
   generalize q + 4 = q4 at *
   generalize q + 5 = q5 at *
   generalize q + 6 = q6 at *
   generalize q + 7 = q7 at *
   obtain ⟨tx, etx⟩ : ∃ tx, markT q5 = tx := ⟨_, rfl⟩
   rw [etx] at HM c5
   clear etx
   have n0 : ((q : Int) != (q : Int)) = false := by simp
   have n1 : ((q1 : Int) != (q1 : Int)) = false := by simp
   have n2 : ((q2 : Int) != (q2 : Int)) = false := by simp
   have n3 : ((q3 : Int) != (q3 : Int)) = false := by simp
   have n4 : ((q4 : Int) != (q4 : Int)) = false := by simp
   have n6 : ((q6 : Int) != (q6 : Int)) = false := by simp
   go_wp2_with (first
    | (refine wpList_load_one rfl 2 (.tmp 15) rfl b (o + m * 7) rfl 159 row (0, 0) HG.out _ c0 _ Tryz.underlying2 rfl (by kernel_rfl) ?_)
    | (refine wpList_load_one rfl 2 (.tmp 24) rfl b (o + m * 7 + 1) rfl 159 row (0, 0) HG.out _ c1 _ Tryz.underlying2 rfl (by kernel_rfl) ?_)
    | (refine wpList_load_one rfl 2 (.tmp 33) rfl b (o + m * 7 + 2) rfl 159 row (0, 0) HG.out _ c2 _ Tryz.underlying2 rfl (by kernel_rfl) ?_)
    | (refine wpList_load_one rfl 2 (.tmp 42) rfl b (o + m * 7 + 3) rfl 159 row (0, 0) HG.out _ c3 _ Tryz.underlying2 rfl (by kernel_rfl) ?_)
    | (refine wpList_load_one rfl 2 (.tmp 51) rfl b (o + m * 7 + 4) rfl 159 row (0, 0) HG.out _ c4 _ Tryz.underlying2 rfl (by kernel_rfl) ?_))
   refine wp_region_quiet (C := fun W => Below wr.heap.size wr W) (by kernel_rfl) (by kernel_rfl) (Below.refl _ _).drew ?_
   dsimp only
   iterate 4 (go_big_quiet_want; go_big_quiet_op; first | go_big_quiet_on | (refine ⟨_, fun _ _ => rfl, ?_⟩; go_big_quiet_on))
   go_big_quiet_want; refine ⟨.string tx, fun W hW => (quietLoadOne 9 (.tmp 60) rfl b (o + m * 7 + 5) rfl _ (rowCells HG.out hW _ _ c5) _ Tryz.underlying9 rfl), ?_⟩; simp only [Act.put, List.setIfInBounds_toArray, List.set_cons_zero, List.set_cons_succ]; go_big_quiet_on
   go_big_quiet_want; go_big_quiet_op; first | go_big_quiet_on | (refine ⟨_, fun _ _ => rfl, ?_⟩; go_big_quiet_on)
   go_big_quiet_want; go_big_quiet_op; refine ⟨_, fun W hW => quietCall hW (HM W).out, ?_⟩; go_big_quiet_on
   go_big_quiet_want; go_big_quiet_op; first | go_big_quiet_on | (refine ⟨_, fun _ _ => rfl, ?_⟩; go_big_quiet_on)
   refine wpQuiet_nil ?_
   intro X hX
   have HG2 := Lib.hid ((hX.block b (Array.getElem?_eq_some_iff.1 HG.out).1).trans HG.out)
   go_wp2_with (first
    | (refine wpList_load_one rfl 2 (.tmp 70) rfl b (o + m * 7 + 6) rfl 159 row (0, 0) HG2.out _ c6 _ Tryz.underlying2 rfl (by kernel_rfl) ?_))
   go_roundw
   case rel => exact ⟨m + 1, by go_num, by rw [HK.out], by omega, hb.trans (hX.mono hb.size)⟩
   case measure => simp [intOf]; omega
  ·have hge : N ≤ m := by omega
   go_wp2_with fail
   go_ret
   exact ⟨by rw [show N = m by omega]; rfl, hb⟩
end Go.Proofs.YtioldepgoodipaaGreat
namespace Go.Proofs.YtioldepgoodipaaGreat
open Go.RowKit
set_option linter.unusedVariables false
theorem toSes_new (a : Option Addr) (cap : Nat) (l : List Se) (w : World) (h : RsIn seL 7 w a l) (hlen : l.length ≤ 1048576) :
  Calls Tryz.prog 41 #[.slice a l.length cap] w fun e w' => ∃ a', e = .returned (.slice a' l.length l.length) ∧ RsNew seL 7 159 w.heap.size w'.heap.size w' a' l ∧ Below w.heap.size w w' :=
 (toSessionS_new a cap l w h hlen).mono fun _ _ ⟨h1, h2, h3⟩ => ⟨_, h1, h2, h3⟩
end Go.Proofs.YtioldepgoodipaaGreat
namespace Go.Proofs.YtioldepgoodipaaGreat
open Go.RowKit
set_option linter.unusedVariables false

theorem Out.span2 {lo hi lo2 hi2 : Nat} {w w2 : World} (h : Out lo hi w w2) (h1 : lo2 ≤ lo) (h2 : hi ≤ hi2) : Out lo2 hi2 w w2 := ⟨h.os, h.tape, h.output, h.size, fun k hk h3 => h.block k hk (by omega)⟩
def NdSmall (x : Nd) : Prop := x.c.tk.length ≤ 1048576 ∧ x.q.length ≤ 1048576 ∧ (x.t.length ≤ 1048576 ∧ ∀ i, i < x.t.length → (seAt x.t i).dt.size ≤ 1048576) ∧ x.d.length ≤ 1048576 ∧ (x.g.length ≤ 1048576 ∧ ∀ i, i < x.g.length → (gtAt x.g i).dt.size ≤ 1048576)
theorem szInt64S_nd (a : Option Addr) (cap n : Nat) (w : World) (hn : n ≤ maxLen) :
  Calls Tryz.prog 74 #[.slice a n cap, .int .i64 1048576] w fun e w' => ∃ k : Int, e = .returned (.int .i64 k) ∧ -1 ≤ k ∧ k ≤ 1048576 ∧ (0 ≤ k → n ≤ 1048576) ∧ Below w.heap.size w w' := by
 unfold maxLen at hn
 have hw : IntKind.i64.wrap (1048576 - (n : Int)) = 1048576 - n := IntWalk.i64_in _ (by omega)
 by_cases hbig : (1048576 : Int) < (n : Int)
 ·have hd : decide ((1048576 : Int) - (n : Int) < 0) = true := decide_eq_true (by omega)
  go_enter Tryz.func74, Tryz.ntmps74
  go_wp2_with fail
  go_ret
  exact ⟨-1, rfl, by omega, by omega, fun q => absurd q (by omega), Below.refl _ _⟩
 ·have hd : decide ((1048576 : Int) - (n : Int) < 0) = false := decide_eq_false (by omega)
  go_enter Tryz.func74, Tryz.ntmps74
  go_wp2_with fail
  go_ret
  exact ⟨_, rfl, by omega, by omega, fun _ => by omega, Below.refl _ _⟩
set_option maxRecDepth 100000 in
theorem szClaim_more (n : Nm) (ad st lf : Int) (a : Option Addr) (N cap : Nat) (w : World) (hn : N ≤ maxLen) :
  Calls Tryz.prog 25 #[clV n ad st lf (.slice a N cap), .int .i64 1048576] w fun e w' => ∃ m : Int, e = .returned (.int .i64 m) ∧ -1 ≤ m ∧ m ≤ 1048576 ∧ (0 ≤ m → N ≤ 1048576) ∧ Below w.heap.size w w' := by
 have HN := fun W => Lib.hid (szInt64S_nd a cap N W hn)
 obtain ⟨n0, n1, n2, n3, n4, n5, n6, n7⟩ := n
 unfold clV
 dsimp only
 clear hn
 go_enter Tryz.func25, Tryz.ntmps25
 go_wp2_with (first
  | (refine wpList_box_h rfl 26 (.tmp 0) rfl #[.int .i64 n0, .int .i64 n1, .int .i64 n2, .int .i64 n3, .int .i64 n4, .int .i64 n5, .int .i64 n6, .bool n7, .int .i64 ad, .int .i64 st, .int .i64 lf, .slice a N cap] rfl ?_; intro w1 R1 e1 g1 b1; have HL1 := Lib.hid (show Lg w w1 [(R1, #[.int .i64 n0, .int .i64 n1, .int .i64 n2, .int .i64 n3, .int .i64 n4, .int .i64 n5, .int .i64 n6, .bool n7, .int .i64 ad, .int .i64 st, .int .i64 lf, .slice a N cap], 26)] [] from (Lg.first w).box e1 g1 b1); clear g1 b1 e1)
  | (refine wpList_load_one rfl 24 (.tmp 5) rfl (R1) 11 rfl 26 #[.int .i64 n0, .int .i64 n1, .int .i64 n2, .int .i64 n3, .int .i64 n4, .int .i64 n5, .int .i64 n6, .bool n7, .int .i64 ad, .int .i64 st, .int .i64 lf, .slice a N cap] (0, 0) (HL1.out.get (.head _)) (.slice a N cap) rfl _ Tryz.underlying24 rfl (by kernel_rfl) ?_))
 refine ((HN _).out).mono ?_
 rintro e w2 ⟨m, rfl, hm0, hm1, hm2, h⟩
 have HL2 := Lib.hid (show Lg w w2 [(R1, #[.int .i64 n0, .int .i64 n1, .int .i64 n2, .int .i64 n3, .int .i64 n4, .int .i64 n5, .int .i64 n6, .bool n7, .int .i64 ad, .int .i64 st, .int .i64 lf, .slice a N cap], 26)] [] from HL1.out.kept h)
 clear h
 by_cases hneg : m < 0
 ·have hd : decide (m < 0) = true := decide_eq_true hneg
  go_wp2_with fail
  go_ret
  exact ⟨-1, rfl, by omega, by omega, fun q => absurd q (by omega), HL2.out.below⟩
 have hd : decide (m < 0) = false := decide_eq_false hneg
 go_wp2_with fail
 go_ret
 exact ⟨m, rfl, hm0, hm1, hm2, HL2.out.below⟩
theorem szDeviceS_more (a : Option Addr) (cap n : Nat) (m : Int) (w : World) (hn : n ≤ maxLen) (h0 : 0 ≤ m) (h1 : m ≤ 1048576) :
  Calls Tryz.prog 28 #[.slice a n cap, .int .i64 m] w fun e w' => ∃ k : Int, e = .returned (.int .i64 k) ∧ -1 ≤ k ∧ k ≤ 1048576 ∧ (0 ≤ k → n ≤ 1048576) ∧ Below w.heap.size w w' := by
 unfold maxLen at hn
 have hw : IntKind.i64.wrap (m - (n : Int)) = m - n := IntWalk.i64_in _ (by omega)
 by_cases hbig : m < (n : Int)
 ·have hd : decide (m - (n : Int) < 0) = true := decide_eq_true (by omega)
  go_enter Tryz.func28, Tryz.ntmps28
  go_wp2_with fail
  go_ret
  exact ⟨-1, rfl, by omega, by omega, fun q => absurd q (by omega), Below.refl _ _⟩
 ·have hd : decide (m - (n : Int) < 0) = false := decide_eq_false (by omega)
  go_enter Tryz.func28, Tryz.ntmps28
  go_wp2_with fail
  go_ret
  exact ⟨_, rfl, by omega, by omega, fun _ => by omega, Below.refl _ _⟩
set_option maxRecDepth 100000 in
set_option maxHeartbeats 1000000 in
theorem szSessionS_more (a : Option Addr) (cap : Nat) (l : List Se) (m0 : Int) (w : World) (h : RsIn seL 7 w a l) (hok : ∀ i, i < l.length → (seAt l i).dt.size ≤ maxLen) (hlen : l.length ≤ maxLen) (hm0 : 0 ≤ m0) (hm1 : m0 ≤ 1048576) :
  Calls Tryz.prog 27 #[.slice a l.length cap, .int .i64 m0] w fun e w' => ∃ m : Int, e = .returned (.int .i64 m) ∧ -1 ≤ m ∧ m ≤ 1048576 ∧ (0 ≤ m → l.length ≤ 1048576 ∧ ∀ i, i < l.length → (seAt l i).dt.size ≤ 1048576) ∧ Below w.heap.size w w' := by
 unfold maxLen at hlen
 by_cases hbig : m0 < l.length
 ·have hd : decide (m0 - (l.length : Int) < 0) = true := decide_eq_true (by omega)
  have hw : IntKind.i64.wrap (m0 - (l.length : Int)) = m0 - l.length := IntWalk.i64_in _ (by omega)
  go_enter Tryz.func27, Tryz.ntmps27
  go_wp2_with fail
  go_ret
  exact ⟨-1, rfl, by omega, by omega, fun q => absurd q (by omega), Below.refl _ _⟩
 ·have hd : decide (m0 - (l.length : Int) < 0) = false := decide_eq_false (by omega)
  have hw : IntKind.i64.wrap (m0 - (l.length : Int)) = m0 - l.length := IntWalk.i64_in _ (by omega)
  obtain ⟨M, hM⟩ : ∃ M : Int, m0 - (l.length : Int) = M := ⟨_, rfl⟩
  rw [hM] at hd hw
  have hM1 : 0 ≤ M ∧ M ≤ 1048576 := by omega
  have HI := Lib.hid h
  have HK := Lib.hid hok
  clear h hok
  obtain ⟨N, hN⟩ : ∃ N, l.length = N := ⟨_, rfl⟩
  have HN := Lib.hid hN
  rw [hN] at hbig hM ⊢
  have hlN : N ≤ 1048576 := by omega
  clear hN hlen
  go_enter Tryz.func27, Tryz.ntmps27
  go_wp2_with fail
  go_loopw [1, 5] (fun u i wr => ∃ (k : Nat) (m : Int), i = .int .i64 (k : Int) ∧ u = .int .i64 m ∧ k ≤ N ∧ 0 ≤ m ∧ m ≤ 1048576 ∧ (∀ i, i < k → (seAt l i).dt.size ≤ 1048576) ∧ Below w.heap.size w wr) (fun _ i _ => N - (intOf i).toNat)
  case atStart => exact ⟨0, M, rfl, rfl, by omega, hM1.1, hM1.2, fun i hi => absurd hi (by omega), Below.refl _ _⟩
  case round =>
   obtain ⟨k, m, rfl, rfl, hk, hm0, hm1, hall, hb⟩ := hrel
   have HA := Lib.hid hall
   clear hall
   by_cases hkn : k < N
   ·have hkl : k < l.length := by have := HN.out; omega
    obtain ⟨b, o, rfl, hlt, hc⟩ := HI.out.at (by omega)
    have HCs := Lib.hid (fun j v hv => (hb.cell (p := ⟨b, _, none⟩) hlt).trans (hc k _ (seAt_some hkl) j v hv))
    have hg := HK.out k hkl
    have hbs := hb.size
    have hi1 : (0 : Int) ≤ (k : Int) := by omega
    have hi2 : (k : Int) < (N : Int) := by omega
    have HG := Lib.hid hg
    have HA2 := Lib.hid (show (seAt l k).dt.size ≤ 1048576 → ∀ i, i < k + 1 → (seAt l i).dt.size ≤ 1048576 from fun h i hi => by
     rcases Nat.lt_or_ge i k with h' | h'
     ·exact HA.out i h'
     ·rw [show i = k by omega]; exact h)
    clear hc hg HA
    generalize seAt l k = x at *
    have HC := fun W => Lib.hid (szSession_any x m W hm0 hm1 HG.out)
    by_cases hneg : m - x.dt.size < 0
    ·rw [if_pos hneg] at HC
     have e0 : decide ((-1 : Int) < 0) = true := by decide
     go_wp2_with (refine wpList_load_cells rfl 135 (.tmp 20) rfl b (o + k * 7) rfl (seL x) HCs.out _ Tryz.underlying135 rfl (by kernel_rfl) ?_)
     refine (HC _).out.mono ?_
     rintro e w1 ⟨rfl, h1⟩
     go_wp2_with fail
     go_ret
     exact ⟨-1, rfl, by omega, by omega, fun q => absurd q (by omega), hb.trans (h1.mono hbs)⟩
    ·rw [if_neg hneg] at HC
     have hs := HA2.out (by omega)
     have HA3 := Lib.hid hs
     clear hs HA2
     obtain ⟨m', hm'⟩ : ∃ m' : Int, m - x.dt.size = m' := ⟨_, rfl⟩
     rw [hm'] at HC
     have hm2 : 0 ≤ m' ∧ m' ≤ 1048576 := by omega
     clear hm' hneg
     have e0 : decide (m' < 0) = false := decide_eq_false (by omega)
     go_wp2_with (refine wpList_load_cells rfl 135 (.tmp 20) rfl b (o + k * 7) rfl (seL x) HCs.out _ Tryz.underlying135 rfl (by kernel_rfl) ?_)
     refine (HC _).out.mono ?_
     rintro e w1 ⟨rfl, h1⟩
     go_wp2_with fail
     go_roundw
     case rel => exact ⟨k + 1, m', by go_num, rfl, by omega, hm2.1, hm2.2, HA3.out, hb.trans (h1.mono hbs)⟩
     case measure => simp [intOf]; omega
   ·have HA2 := Lib.hid (show ∀ i, i < N → (seAt l i).dt.size ≤ 1048576 from fun i hi => HA.out i (by omega))
    clear HA
    go_wp2_with fail
    go_ret
    exact ⟨m, rfl, by omega, hm1, fun _ => ⟨by omega, HA2.out⟩, hb⟩
set_option maxRecDepth 100000 in
set_option maxHeartbeats 8000000 in
theorem szNode_any (x : Nd) (a1 a2 a3 a4 a5 : Option Addr) (c1 c2 c3 c4 c5 : Nat) (w : World) (h : NdIn w a1 a2 a3 a4 a5 x) (hok : CansOk x.q ∧ SesOk x.t ∧ (∀ y ∈ x.g, GtOk y)) (hlen : x.c.tk.length ≤ maxLen ∧ x.q.length ≤ maxLen ∧ x.t.length ≤ maxLen ∧ x.d.length ≤ maxLen ∧ x.g.length ≤ maxLen) :
  Calls Tryz.prog 6 #[ndV x a1 a2 a3 a4 a5 c1 c2 c3 c4 c5, .int .i64 1048576] w fun e w' => ∃ m : Int, e = .returned (.int .i64 m) ∧ -1 ≤ m ∧ m ≤ 1048576 ∧ (0 ≤ m → NdSmall x) ∧ Below w.heap.size w w' := by
 unfold NdSmall
 obtain ⟨⟨⟨n0, n1, n2, n3, n4, n5, n6, n7⟩, ad, st, lf, tk⟩, q, t, d, g, sq⟩ := x
 unfold ndV
 dsimp only at *
 obtain ⟨i1, i2, i3, i4, i5⟩ := h
 obtain ⟨o1, o2, o3⟩ := hok
 obtain ⟨g1, g2, g3, g4, g5⟩ := hlen
 dsimp only at *
 have HI2 := Lib.hid i2
 have HI3 := Lib.hid i3
 have HI5 := Lib.hid i5
 have HC1 := fun W => Lib.hid (szClaim_more ⟨n0, n1, n2, n3, n4, n5, n6, n7⟩ ad st lf a1 tk.length c1 W g1)
 have HC2 := fun W m h h0 h1 => Lib.hid (szQueue_any a2 c2 q m W h o1 g2 h0 h1)
 have HC3 := fun W m h h0 h1 => Lib.hid (szSessionS_more a3 c3 t m W h (fun i hi => (seAt_ok o2 hi).2.2.2.2.2.1) g3 h0 h1)
 have HC4 := fun W m h0 h1 => Lib.hid (szDeviceS_more a4 c4 d.length m W g4 h0 h1)
 have HC5 := fun W m h h0 h1 => Lib.hid (szGotS_more a5 c5 g m W h (fun i hi => (o3 _ (by have := gtAt_some hi; exact List.mem_of_getElem? this)).2.2) g5 h0 h1)
 unfold clV at HC1
 dsimp only at HC1
 clear i1 i2 i3 i4 i5 o1 o2 o3 g1 g2 g3 g4 g5
 generalize eN1 : tk.length = N1 at *
 generalize eN2 : q.length = N2 at *
 generalize eN3 : t.length = N3 at *
 generalize eN4 : d.length = N4 at *
 generalize eN5 : g.length = N5 at *
 clear eN1 eN2 eN3 eN4 eN5
 go_enter Tryz.func6, Tryz.ntmps6
 go_wp2_with (first
  | (refine wpList_box_h rfl 34 (.tmp 0) rfl #[.int .i64 n0, .int .i64 n1, .int .i64 n2, .int .i64 n3, .int .i64 n4, .int .i64 n5, .int .i64 n6, .bool n7, .int .i64 ad, .int .i64 st, .int .i64 lf, .slice a1 N1 c1, .slice a2 N2 c2, .slice a3 N3 c3, .slice a4 N4 c4, .slice a5 N5 c5, .int .i64 sq] rfl ?_; intro w1 R1 e1 g1 b1; have HL1 := Lib.hid (show Lg w w1 [(R1, (qC2 n0 n1 n2 n3 n4 n5 n6 n7 ad st lf a1 N1 c1 a2 N2 c2 a3 N3 c3 a4 N4 c4 a5 N5 c5 sq), 34)] [] from (Lg.first w).box e1 g1 b1); clear g1 b1 e1)
  | (refine wpList_load_at rfl 26 (.tmp 5) rfl (R1) 0 rfl 34 (qC2 n0 n1 n2 n3 n4 n5 n6 n7 ad st lf a1 N1 c1 a2 N2 c2 a3 N3 c3 a4 N4 c4 a5 N5 c5 sq) (0, 0) (HL1.out.get (.head _)) [.int .i64 n0, .int .i64 n1, .int .i64 n2, .int .i64 n3, .int .i64 n4, .int .i64 n5, .int .i64 n6, .bool n7, .int .i64 ad, .int .i64 st, .int .i64 lf, .slice a1 N1 c1] rfl _ Tryz.underlying26 rfl (by kernel_rfl) ?_))
 refine ((HC1 _).out).mono ?_
 rintro e w2 ⟨m1, rfl, hm1a, hm1b, hm1c, h⟩
 have HL2 := Lib.hid (show Lg w w2 [(R1, (qC2 n0 n1 n2 n3 n4 n5 n6 n7 ad st lf a1 N1 c1 a2 N2 c2 a3 N3 c3 a4 N4 c4 a5 N5 c5 sq), 34)] [] from HL1.out.kept h)
 clear h
 by_cases hneg1 : m1 < 0
 ·have hd : decide (m1 < 0) = true := decide_eq_true hneg1
  go_wp2_with fail
  go_ret
  exact ⟨-1, rfl, by omega, by omega, fun q => absurd q (by omega), HL2.out.below⟩
 have hd1 : decide (m1 < 0) = false := decide_eq_false hneg1
 go_wp2_with (first
  | (refine wpList_load_at rfl 29 (.tmp 11) rfl (R1) 12 rfl 34 (qC2 n0 n1 n2 n3 n4 n5 n6 n7 ad st lf a1 N1 c1 a2 N2 c2 a3 N3 c3 a4 N4 c4 a5 N5 c5 sq) (0, 0) (HL2.out.get (.head _)) [.slice a2 N2 c2] rfl _ Tryz.underlying29 rfl (by kernel_rfl) ?_))
 refine ((HC2 _ m1 (HI2.out.kept HL2.out.below) (by omega) hm1b).out).mono ?_
 rintro e w3 ⟨m2, rfl, hm2a, hm2b, hm2c, h⟩
 have HL3 := Lib.hid (show Lg w w3 [(R1, (qC2 n0 n1 n2 n3 n4 n5 n6 n7 ad st lf a1 N1 c1 a2 N2 c2 a3 N3 c3 a4 N4 c4 a5 N5 c5 sq), 34)] [] from HL2.out.kept h)
 clear h
 by_cases hneg2 : m2 < 0
 ·have hd : decide (m2 < 0) = true := decide_eq_true hneg2
  go_wp2_with fail
  go_ret
  exact ⟨-1, rfl, by omega, by omega, fun q => absurd q (by omega), HL3.out.below⟩
 have hd2 : decide (m2 < 0) = false := decide_eq_false hneg2
 go_wp2_with (first
  | (refine wpList_load_one rfl 30 (.tmp 17) rfl (R1) 13 rfl 34 (qC2 n0 n1 n2 n3 n4 n5 n6 n7 ad st lf a1 N1 c1 a2 N2 c2 a3 N3 c3 a4 N4 c4 a5 N5 c5 sq) (0, 0) (HL3.out.get (.head _)) (.slice a3 N3 c3) rfl _ Tryz.underlying30 rfl (by kernel_rfl) ?_))
 refine ((HC3 _ m2 (HI3.out.kept HL3.out.below) (by omega) hm2b).out).mono ?_
 rintro e w4 ⟨m3, rfl, hm3a, hm3b, hm3c, h⟩
 have HL4 := Lib.hid (show Lg w w4 [(R1, (qC2 n0 n1 n2 n3 n4 n5 n6 n7 ad st lf a1 N1 c1 a2 N2 c2 a3 N3 c3 a4 N4 c4 a5 N5 c5 sq), 34)] [] from HL3.out.kept h)
 clear h
 by_cases hneg3 : m3 < 0
 ·have hd : decide (m3 < 0) = true := decide_eq_true hneg3
  go_wp2_with fail
  go_ret
  exact ⟨-1, rfl, by omega, by omega, fun q => absurd q (by omega), HL4.out.below⟩
 have hd3 : decide (m3 < 0) = false := decide_eq_false hneg3
 go_wp2_with (first
  | (refine wpList_load_one rfl 31 (.tmp 23) rfl (R1) 14 rfl 34 (qC2 n0 n1 n2 n3 n4 n5 n6 n7 ad st lf a1 N1 c1 a2 N2 c2 a3 N3 c3 a4 N4 c4 a5 N5 c5 sq) (0, 0) (HL4.out.get (.head _)) (.slice a4 N4 c4) rfl _ Tryz.underlying31 rfl (by kernel_rfl) ?_))
 refine ((HC4 _ m3 (by omega) hm3b).out).mono ?_
 rintro e w5 ⟨m4, rfl, hm4a, hm4b, hm4c, h⟩
 have HL5 := Lib.hid (show Lg w w5 [(R1, (qC2 n0 n1 n2 n3 n4 n5 n6 n7 ad st lf a1 N1 c1 a2 N2 c2 a3 N3 c3 a4 N4 c4 a5 N5 c5 sq), 34)] [] from HL4.out.kept h)
 clear h
 by_cases hneg4 : m4 < 0
 ·have hd : decide (m4 < 0) = true := decide_eq_true hneg4
  go_wp2_with fail
  go_ret
  exact ⟨-1, rfl, by omega, by omega, fun q => absurd q (by omega), HL5.out.below⟩
 have hd4 : decide (m4 < 0) = false := decide_eq_false hneg4
 go_wp2_with (first
  | (refine wpList_load_one rfl 32 (.tmp 29) rfl (R1) 15 rfl 34 (qC2 n0 n1 n2 n3 n4 n5 n6 n7 ad st lf a1 N1 c1 a2 N2 c2 a3 N3 c3 a4 N4 c4 a5 N5 c5 sq) (0, 0) (HL5.out.get (.head _)) (.slice a5 N5 c5) rfl _ Tryz.underlying32 rfl (by kernel_rfl) ?_))
 refine ((HC5 _ m4 (HI5.out.kept HL5.out.below) (by omega) hm4b).out).mono ?_
 rintro e w6 ⟨m5, rfl, hm5a, hm5b, hm5c, h⟩
 have HL6 := Lib.hid (show Lg w w6 [(R1, (qC2 n0 n1 n2 n3 n4 n5 n6 n7 ad st lf a1 N1 c1 a2 N2 c2 a3 N3 c3 a4 N4 c4 a5 N5 c5 sq), 34)] [] from HL5.out.kept h)
 clear h
 by_cases hneg5 : m5 < 0
 ·have hd : decide (m5 < 0) = true := decide_eq_true hneg5
  go_wp2_with fail
  go_ret
  exact ⟨-1, rfl, by omega, by omega, fun q => absurd q (by omega), HL6.out.below⟩
 have hd5 : decide (m5 < 0) = false := decide_eq_false hneg5
 go_wp2_with fail
 go_ret
 exact ⟨m5, rfl, hm5a, hm5b, fun _ => ⟨hm1c (by omega), hm2c (by omega), hm3c (by omega), hm4c (by omega), hm5c (by omega)⟩, HL6.out.below⟩
set_option maxRecDepth 100000 in
set_option maxHeartbeats 8000000 in
theorem toNode_new (x : Nd) (a1 a2 a3 a4 a5 : Option Addr) (c1 c2 c3 c4 c5 : Nat) (w : World) (h : NdIn w a1 a2 a3 a4 a5 x) (hs : NdSmall x) :
  Calls Tryz.prog 9 #[ndV x a1 a2 a3 a4 a5 c1 c2 c3 c4 c5] w fun e w' => ∃ y1 y2 y3 y4 y5 : Option Addr, e = .returned (ndV x y1 y2 y3 y4 y5 x.c.tk.length x.q.length x.t.length x.d.length x.g.length) ∧ NdNew w.heap.size w'.heap.size w' y1 y2 y3 y4 y5 x ∧ Below w.heap.size w w' := by
 unfold NdSmall at hs
 obtain ⟨⟨⟨n0, n1, n2, n3, n4, n5, n6, n7⟩, ad, st, lf, tk⟩, q, t, d, g, sq⟩ := x
 unfold ndV
 dsimp only at *
 obtain ⟨i1, i2, i3, i4, i5⟩ := h
 obtain ⟨s1, s2, ⟨s3, -⟩, s4, s5, -⟩ := hs
 dsimp only at *
 have HI1 := Lib.hid i1
 have HI2 := Lib.hid i2
 have HI3 := Lib.hid i3
 have HI4 := Lib.hid i4
 have HI5 := Lib.hid i5
 have HC1 := fun W h => Lib.hid (toClaim_new ⟨n0, n1, n2, n3, n4, n5, n6, n7⟩ ad st lf a1 c1 tk W h s1)
 have HC2 := fun W h => Lib.hid (toQueue_new a2 c2 q W h s2)
 have HC3 := fun W h => Lib.hid (toSes_new a3 c3 t W h s3)
 have HC4 := fun W h => Lib.hid (toDeviceS_new a4 c4 d W h s4)
 have HC5 := fun W h => Lib.hid (toGotS_new a5 c5 g W h s5)
 unfold clV at HC1
 dsimp only at HC1
 clear i1 i2 i3 i4 i5 s1 s2 s3 s4 s5
 generalize eN1 : tk.length = N1 at *
 generalize eN2 : q.length = N2 at *
 generalize eN3 : t.length = N3 at *
 generalize eN4 : d.length = N4 at *
 generalize eN5 : g.length = N5 at *
 have HEN := Lib.hid (And.intro eN1 (And.intro eN2 (And.intro eN3 (And.intro eN4 eN5))))
 clear eN1 eN2 eN3 eN4 eN5
 go_enter Tryz.func9, Tryz.ntmps9
 go_wp2_with (first
  | (refine wpList_box_h rfl 34 (.tmp 0) rfl #[.int .i64 n0, .int .i64 n1, .int .i64 n2, .int .i64 n3, .int .i64 n4, .int .i64 n5, .int .i64 n6, .bool n7, .int .i64 ad, .int .i64 st, .int .i64 lf, .slice a1 N1 c1, .slice a2 N2 c2, .slice a3 N3 c3, .slice a4 N4 c4, .slice a5 N5 c5, .int .i64 sq] rfl ?_; intro w1 R1 e1 g1 b1; have HL1 := Lib.hid (show Lg w w1 [(R1, (qC2 n0 n1 n2 n3 n4 n5 n6 n7 ad st lf a1 N1 c1 a2 N2 c2 a3 N3 c3 a4 N4 c4 a5 N5 c5 sq), 34)] [] from (Lg.first w).box e1 g1 b1); clear g1 b1 e1)
  | (refine wpList_alloc_h rfl 48 rfl (.agg #[.int .i64 0, .int .i64 0, .int .i64 0, .int .i64 0, .int .i64 0, .int .i64 0, .int .i64 0, .bool false, .int .i64 0, .int .i64 0, .int .i64 0, .slice none 0 0, .slice none 0 0, .slice none 0 0, .slice none 0 0, .slice none 0 0, .int .i64 0]) (by kernel_rfl) #[.int .i64 0, .int .i64 0, .int .i64 0, .int .i64 0, .int .i64 0, .int .i64 0, .int .i64 0, .bool false, .int .i64 0, .int .i64 0, .int .i64 0, .slice none 0 0, .slice none 0 0, .slice none 0 0, .slice none 0 0, .slice none 0 0, .int .i64 0] rfl ?_; intro w2 R2 e2 g2 b2; have qR2_R1 : R1 < R2 := Nat.lt_of_lt_of_eq (HL1.out.lt (.head _)) e2; have HL2 := Lib.hid (show Lg w w2 [(R2, (qC3), 48), (R1, (qC2 n0 n1 n2 n3 n4 n5 n6 n7 ad st lf a1 N1 c1 a2 N2 c2 a3 N3 c3 a4 N4 c4 a5 N5 c5 sq), 34)] [] from HL1.out.box e2 g2 b2); clear g2 b2 e2)
  | (refine wpList_alloc_h rfl 48 rfl (.agg #[.int .i64 0, .int .i64 0, .int .i64 0, .int .i64 0, .int .i64 0, .int .i64 0, .int .i64 0, .bool false, .int .i64 0, .int .i64 0, .int .i64 0, .slice none 0 0, .slice none 0 0, .slice none 0 0, .slice none 0 0, .slice none 0 0, .int .i64 0]) (by kernel_rfl) #[.int .i64 0, .int .i64 0, .int .i64 0, .int .i64 0, .int .i64 0, .int .i64 0, .int .i64 0, .bool false, .int .i64 0, .int .i64 0, .int .i64 0, .slice none 0 0, .slice none 0 0, .slice none 0 0, .slice none 0 0, .slice none 0 0, .int .i64 0] rfl ?_; intro w3 R3 e3 g3 b3; have qR3_R2 : R2 < R3 := Nat.lt_of_lt_of_eq (HL2.out.lt (.head _)) e3; have qR3_R1 : R1 < R3 := Nat.lt_of_lt_of_eq (HL2.out.lt qCm1) e3; have HL3 := Lib.hid (show Lg w w3 [(R3, (qC3), 48), (R2, (qC3), 48), (R1, (qC2 n0 n1 n2 n3 n4 n5 n6 n7 ad st lf a1 N1 c1 a2 N2 c2 a3 N3 c3 a4 N4 c4 a5 N5 c5 sq), 34)] [] from HL2.out.box e3 g3 b3); clear g3 b3 e3)
  | (refine wpList_load_at rfl 26 (.tmp 4) rfl (R1) 0 rfl 34 (qC2 n0 n1 n2 n3 n4 n5 n6 n7 ad st lf a1 N1 c1 a2 N2 c2 a3 N3 c3 a4 N4 c4 a5 N5 c5 sq) (0, 0) (HL3.out.get qCm2) [.int .i64 n0, .int .i64 n1, .int .i64 n2, .int .i64 n3, .int .i64 n4, .int .i64 n5, .int .i64 n6, .bool n7, .int .i64 ad, .int .i64 st, .int .i64 lf, .slice a1 N1 c1] rfl _ Tryz.underlying26 rfl (by kernel_rfl) ?_))
 refine ((HC1 _ (HI1.out.kept HL3.out.below)).out).mono ?_
 rintro e w4 ⟨g4, rfl, hn, h⟩
 obtain ⟨L4, e4⟩ : ∃ x, w3.heap.size = x := ⟨_, rfl⟩
 obtain ⟨H4, f4⟩ : ∃ x, w4.heap.size = x := ⟨_, rfl⟩
 have qL4_R3 : R3 < L4 := Nat.lt_of_lt_of_eq (HL3.out.lt (.head _)) e4
 have qL4_R2 : R2 < L4 := Nat.lt_of_lt_of_eq (HL3.out.lt qCm1) e4
 have qL4_R1 : R1 < L4 := Nat.lt_of_lt_of_eq (HL3.out.lt qCm2) e4
 have qH4_L4 : L4 ≤ H4 := (by rw [← e4, ← f4]; exact h.size)
 have HL4 := Lib.hid (show Lg w w4 [(R3, (qC3), 48), (R2, (qC3), 48), (R1, (qC2 n0 n1 n2 n3 n4 n5 n6 n7 ad st lf a1 N1 c1 a2 N2 c2 a3 N3 c3 a4 N4 c4 a5 N5 c5 sq), 34)] [(L4, H4, fun W => NumsNew L4 H4 W (some ⟨g4, 0, none⟩) tk)] from HL3.out.made e4 f4 h (by rw [← e4, ← f4]; exact hn.solid))
 clear h hn e4 f4
 go_wp2_with (first
  | (refine wpList_put_at rfl 40 (.tmp 7) (.tmp 6) rfl rfl (R3) 0 rfl _ rfl #[.int .i64 n0, .int .i64 n1, .int .i64 n2, .int .i64 n3, .int .i64 n4, .int .i64 n5, .int .i64 n6, .bool n7, .int .i64 ad, .int .i64 st, .int .i64 lf, .slice (some ⟨g4, 0, none⟩) N1 N1] rfl 48 (qC3) (qC4 n0 n1 n2 n3 n4 n5 n6 n7 ad st lf (some ⟨g4, 0, none⟩) N1 N1) (HL4.out.get (.head _)) (by kernel_rfl) (by kernel_rfl) (by kernel_rfl) (by kernel_rfl) ?_; intro w5 g5 o5; have HL5 := Lib.hid (show Lg w w5 [(R3, (qC4 n0 n1 n2 n3 n4 n5 n6 n7 ad st lf (some ⟨g4, 0, none⟩) N1 N1), 48), (R2, (qC3), 48), (R1, (qC2 n0 n1 n2 n3 n4 n5 n6 n7 ad st lf a1 N1 c1 a2 N2 c2 a3 N3 c3 a4 N4 c4 a5 N5 c5 sq), 34)] [(L4, H4, fun W => NumsNew L4 H4 W (some ⟨g4, 0, none⟩) tk)] from HL4.out.put 0 rfl g5 o5 (qCf ⟨Nat.ne_of_lt qR3_R2, (qCf ⟨Nat.ne_of_lt qR3_R1, (fun _ h => nomatch h)⟩)⟩) (qCf ⟨.inr qL4_R3, (fun _ h => nomatch h)⟩) rfl); clear g5 o5)
  | (refine wpList_load_at rfl 29 (.tmp 8) rfl (R1) 12 rfl 34 (qC2 n0 n1 n2 n3 n4 n5 n6 n7 ad st lf a1 N1 c1 a2 N2 c2 a3 N3 c3 a4 N4 c4 a5 N5 c5 sq) (0, 0) (HL5.out.get qCm2) [.slice a2 N2 c2] rfl _ Tryz.underlying29 rfl (by kernel_rfl) ?_))
 refine ((HC2 _ (HI2.out.kept HL5.out.below)).out).mono ?_
 rintro e w6 ⟨g6, rfl, hn, h⟩
 obtain ⟨L6, e6⟩ : ∃ x, w5.heap.size = x := ⟨_, rfl⟩
 obtain ⟨H6, f6⟩ : ∃ x, w6.heap.size = x := ⟨_, rfl⟩
 have qL6_R3 : R3 < L6 := Nat.lt_of_lt_of_eq (HL5.out.lt (.head _)) e6
 have qL6_R2 : R2 < L6 := Nat.lt_of_lt_of_eq (HL5.out.lt qCm1) e6
 have qL6_R1 : R1 < L6 := Nat.lt_of_lt_of_eq (HL5.out.lt qCm2) e6
 have qL6_H4 : H4 ≤ L6 := Nat.le_trans (HL5.out.hi (.head _)).2 (Nat.le_of_eq e6)
 have qH6_L6 : L6 ≤ H6 := (by rw [← e6, ← f6]; exact h.size)
 have HL6 := Lib.hid (show Lg w w6 [(R3, (qC4 n0 n1 n2 n3 n4 n5 n6 n7 ad st lf (some ⟨g4, 0, none⟩) N1 N1), 48), (R2, (qC3), 48), (R1, (qC2 n0 n1 n2 n3 n4 n5 n6 n7 ad st lf a1 N1 c1 a2 N2 c2 a3 N3 c3 a4 N4 c4 a5 N5 c5 sq), 34)] [(L6, H6, fun W => NewIn L6 H6 W (some ⟨g6, 0, none⟩) q), (L4, H4, fun W => NumsNew L4 H4 W (some ⟨g4, 0, none⟩) tk)] from HL5.out.made e6 f6 h (by rw [← e6, ← f6]; exact hn.solid))
 clear h hn e6 f6
 go_wp2_with (first
  | (refine wpList_put_at rfl 43 (.tmp 11) (.tmp 10) rfl rfl (R3) 12 rfl (.agg #[.slice (some ⟨g6, 0, none⟩) N2 N2]) rfl #[.slice (some ⟨g6, 0, none⟩) N2 N2] rfl 48 (qC4 n0 n1 n2 n3 n4 n5 n6 n7 ad st lf (some ⟨g4, 0, none⟩) N1 N1) (qC5 n0 n1 n2 n3 n4 n5 n6 n7 ad st lf (some ⟨g4, 0, none⟩) N1 N1 (some ⟨g6, 0, none⟩) N2 N2) (HL6.out.get (.head _)) (by kernel_rfl) (by kernel_rfl) (by kernel_rfl) (by kernel_rfl) ?_; intro w7 g7 o7; have HL7 := Lib.hid (show Lg w w7 [(R3, (qC5 n0 n1 n2 n3 n4 n5 n6 n7 ad st lf (some ⟨g4, 0, none⟩) N1 N1 (some ⟨g6, 0, none⟩) N2 N2), 48), (R2, (qC3), 48), (R1, (qC2 n0 n1 n2 n3 n4 n5 n6 n7 ad st lf a1 N1 c1 a2 N2 c2 a3 N3 c3 a4 N4 c4 a5 N5 c5 sq), 34)] [(L6, H6, fun W => NewIn L6 H6 W (some ⟨g6, 0, none⟩) q), (L4, H4, fun W => NumsNew L4 H4 W (some ⟨g4, 0, none⟩) tk)] from HL6.out.put 0 rfl g7 o7 (qCf ⟨Nat.ne_of_lt qR3_R2, (qCf ⟨Nat.ne_of_lt qR3_R1, (fun _ h => nomatch h)⟩)⟩) (qCf ⟨.inr qL6_R3, (qCf ⟨.inr qL4_R3, (fun _ h => nomatch h)⟩)⟩) rfl); clear g7 o7)
  | (refine wpList_load_one rfl 30 (.tmp 12) rfl (R1) 13 rfl 34 (qC2 n0 n1 n2 n3 n4 n5 n6 n7 ad st lf a1 N1 c1 a2 N2 c2 a3 N3 c3 a4 N4 c4 a5 N5 c5 sq) (0, 0) (HL7.out.get qCm2) (.slice a3 N3 c3) rfl _ Tryz.underlying30 rfl (by kernel_rfl) ?_))
 refine ((HC3 _ (HI3.out.kept HL7.out.below)).out).mono ?_
 rintro e w8 ⟨a8, rfl, hn, h⟩
 obtain ⟨L8, e8⟩ : ∃ x, w7.heap.size = x := ⟨_, rfl⟩
 obtain ⟨H8, f8⟩ : ∃ x, w8.heap.size = x := ⟨_, rfl⟩
 have qL8_R3 : R3 < L8 := Nat.lt_of_lt_of_eq (HL7.out.lt (.head _)) e8
 have qL8_R2 : R2 < L8 := Nat.lt_of_lt_of_eq (HL7.out.lt qCm1) e8
 have qL8_R1 : R1 < L8 := Nat.lt_of_lt_of_eq (HL7.out.lt qCm2) e8
 have qL8_H6 : H6 ≤ L8 := Nat.le_trans (HL7.out.hi (.head _)).2 (Nat.le_of_eq e8)
 have qL8_H4 : H4 ≤ L8 := Nat.le_trans (HL7.out.hi qCm1).2 (Nat.le_of_eq e8)
 have qH8_L8 : L8 ≤ H8 := (by rw [← e8, ← f8]; exact h.size)
 have HL8 := Lib.hid (show Lg w w8 [(R3, (qC5 n0 n1 n2 n3 n4 n5 n6 n7 ad st lf (some ⟨g4, 0, none⟩) N1 N1 (some ⟨g6, 0, none⟩) N2 N2), 48), (R2, (qC3), 48), (R1, (qC2 n0 n1 n2 n3 n4 n5 n6 n7 ad st lf a1 N1 c1 a2 N2 c2 a3 N3 c3 a4 N4 c4 a5 N5 c5 sq), 34)] [(L8, H8, fun W => RsNew seL 7 159 L8 H8 W a8 t), (L6, H6, fun W => NewIn L6 H6 W (some ⟨g6, 0, none⟩) q), (L4, H4, fun W => NumsNew L4 H4 W (some ⟨g4, 0, none⟩) tk)] from HL7.out.made e8 f8 h (by rw [← e8, ← f8]; exact hn.solid))
 clear h hn e8 f8
 go_wp2_with (first
  | (refine wpList_put_at rfl 44 (.tmp 15) (.tmp 14) rfl rfl (R3) 13 rfl (.slice a8 N3 N3) rfl #[.slice a8 N3 N3] rfl 48 (qC5 n0 n1 n2 n3 n4 n5 n6 n7 ad st lf (some ⟨g4, 0, none⟩) N1 N1 (some ⟨g6, 0, none⟩) N2 N2) (qC6 n0 n1 n2 n3 n4 n5 n6 n7 ad st lf (some ⟨g4, 0, none⟩) N1 N1 (some ⟨g6, 0, none⟩) N2 N2 a8 N3 N3) (HL8.out.get (.head _)) (by kernel_rfl) (by kernel_rfl) (by kernel_rfl) (by kernel_rfl) ?_; intro w9 g9 o9; have HL9 := Lib.hid (show Lg w w9 [(R3, (qC6 n0 n1 n2 n3 n4 n5 n6 n7 ad st lf (some ⟨g4, 0, none⟩) N1 N1 (some ⟨g6, 0, none⟩) N2 N2 a8 N3 N3), 48), (R2, (qC3), 48), (R1, (qC2 n0 n1 n2 n3 n4 n5 n6 n7 ad st lf a1 N1 c1 a2 N2 c2 a3 N3 c3 a4 N4 c4 a5 N5 c5 sq), 34)] [(L8, H8, fun W => RsNew seL 7 159 L8 H8 W a8 t), (L6, H6, fun W => NewIn L6 H6 W (some ⟨g6, 0, none⟩) q), (L4, H4, fun W => NumsNew L4 H4 W (some ⟨g4, 0, none⟩) tk)] from HL8.out.put 0 rfl g9 o9 (qCf ⟨Nat.ne_of_lt qR3_R2, (qCf ⟨Nat.ne_of_lt qR3_R1, (fun _ h => nomatch h)⟩)⟩) (qCf ⟨.inr qL8_R3, (qCf ⟨.inr qL6_R3, (qCf ⟨.inr qL4_R3, (fun _ h => nomatch h)⟩)⟩)⟩) rfl); clear g9 o9)
  | (refine wpList_load_one rfl 31 (.tmp 16) rfl (R1) 14 rfl 34 (qC2 n0 n1 n2 n3 n4 n5 n6 n7 ad st lf a1 N1 c1 a2 N2 c2 a3 N3 c3 a4 N4 c4 a5 N5 c5 sq) (0, 0) (HL9.out.get qCm2) (.slice a4 N4 c4) rfl _ Tryz.underlying31 rfl (by kernel_rfl) ?_))
 refine ((HC4 _ (HI4.out.kept HL9.out.below)).out).mono ?_
 rintro e w10 ⟨a10, rfl, hn, h⟩
 obtain ⟨L10, e10⟩ : ∃ x, w9.heap.size = x := ⟨_, rfl⟩
 obtain ⟨H10, f10⟩ : ∃ x, w10.heap.size = x := ⟨_, rfl⟩
 have qL10_R3 : R3 < L10 := Nat.lt_of_lt_of_eq (HL9.out.lt (.head _)) e10
 have qL10_R2 : R2 < L10 := Nat.lt_of_lt_of_eq (HL9.out.lt qCm1) e10
 have qL10_R1 : R1 < L10 := Nat.lt_of_lt_of_eq (HL9.out.lt qCm2) e10
 have qL10_H8 : H8 ≤ L10 := Nat.le_trans (HL9.out.hi (.head _)).2 (Nat.le_of_eq e10)
 have qL10_H6 : H6 ≤ L10 := Nat.le_trans (HL9.out.hi qCm1).2 (Nat.le_of_eq e10)
 have qL10_H4 : H4 ≤ L10 := Nat.le_trans (HL9.out.hi qCm2).2 (Nat.le_of_eq e10)
 have qH10_L10 : L10 ≤ H10 := (by rw [← e10, ← f10]; exact h.size)
 have HL10 := Lib.hid (show Lg w w10 [(R3, (qC6 n0 n1 n2 n3 n4 n5 n6 n7 ad st lf (some ⟨g4, 0, none⟩) N1 N1 (some ⟨g6, 0, none⟩) N2 N2 a8 N3 N3), 48), (R2, (qC3), 48), (R1, (qC2 n0 n1 n2 n3 n4 n5 n6 n7 ad st lf a1 N1 c1 a2 N2 c2 a3 N3 c3 a4 N4 c4 a5 N5 c5 sq), 34)] [(L10, H10, fun W => RsNew dvL 10 162 L10 H10 W a10 d), (L8, H8, fun W => RsNew seL 7 159 L8 H8 W a8 t), (L6, H6, fun W => NewIn L6 H6 W (some ⟨g6, 0, none⟩) q), (L4, H4, fun W => NumsNew L4 H4 W (some ⟨g4, 0, none⟩) tk)] from HL9.out.made e10 f10 h (by rw [← e10, ← f10]; exact hn.solid))
 clear h hn e10 f10
 go_wp2_with (first
  | (refine wpList_put_at rfl 45 (.tmp 19) (.tmp 18) rfl rfl (R3) 14 rfl (.slice a10 N4 N4) rfl #[.slice a10 N4 N4] rfl 48 (qC6 n0 n1 n2 n3 n4 n5 n6 n7 ad st lf (some ⟨g4, 0, none⟩) N1 N1 (some ⟨g6, 0, none⟩) N2 N2 a8 N3 N3) (qC7 n0 n1 n2 n3 n4 n5 n6 n7 ad st lf (some ⟨g4, 0, none⟩) N1 N1 (some ⟨g6, 0, none⟩) N2 N2 a8 N3 N3 a10 N4 N4) (HL10.out.get (.head _)) (by kernel_rfl) (by kernel_rfl) (by kernel_rfl) (by kernel_rfl) ?_; intro w11 g11 o11; have HL11 := Lib.hid (show Lg w w11 [(R3, (qC7 n0 n1 n2 n3 n4 n5 n6 n7 ad st lf (some ⟨g4, 0, none⟩) N1 N1 (some ⟨g6, 0, none⟩) N2 N2 a8 N3 N3 a10 N4 N4), 48), (R2, (qC3), 48), (R1, (qC2 n0 n1 n2 n3 n4 n5 n6 n7 ad st lf a1 N1 c1 a2 N2 c2 a3 N3 c3 a4 N4 c4 a5 N5 c5 sq), 34)] [(L10, H10, fun W => RsNew dvL 10 162 L10 H10 W a10 d), (L8, H8, fun W => RsNew seL 7 159 L8 H8 W a8 t), (L6, H6, fun W => NewIn L6 H6 W (some ⟨g6, 0, none⟩) q), (L4, H4, fun W => NumsNew L4 H4 W (some ⟨g4, 0, none⟩) tk)] from HL10.out.put 0 rfl g11 o11 (qCf ⟨Nat.ne_of_lt qR3_R2, (qCf ⟨Nat.ne_of_lt qR3_R1, (fun _ h => nomatch h)⟩)⟩) (qCf ⟨.inr qL10_R3, (qCf ⟨.inr qL8_R3, (qCf ⟨.inr qL6_R3, (qCf ⟨.inr qL4_R3, (fun _ h => nomatch h)⟩)⟩)⟩)⟩) rfl); clear g11 o11)
  | (refine wpList_load_one rfl 32 (.tmp 20) rfl (R1) 15 rfl 34 (qC2 n0 n1 n2 n3 n4 n5 n6 n7 ad st lf a1 N1 c1 a2 N2 c2 a3 N3 c3 a4 N4 c4 a5 N5 c5 sq) (0, 0) (HL11.out.get qCm2) (.slice a5 N5 c5) rfl _ Tryz.underlying32 rfl (by kernel_rfl) ?_))
 refine ((HC5 _ (HI5.out.kept HL11.out.below)).out).mono ?_
 rintro e w12 ⟨a12, rfl, hn, h⟩
 obtain ⟨L12, e12⟩ : ∃ x, w11.heap.size = x := ⟨_, rfl⟩
 obtain ⟨H12, f12⟩ : ∃ x, w12.heap.size = x := ⟨_, rfl⟩
 have qL12_R3 : R3 < L12 := Nat.lt_of_lt_of_eq (HL11.out.lt (.head _)) e12
 have qL12_R2 : R2 < L12 := Nat.lt_of_lt_of_eq (HL11.out.lt qCm1) e12
 have qL12_R1 : R1 < L12 := Nat.lt_of_lt_of_eq (HL11.out.lt qCm2) e12
 have qL12_H10 : H10 ≤ L12 := Nat.le_trans (HL11.out.hi (.head _)).2 (Nat.le_of_eq e12)
 have qL12_H8 : H8 ≤ L12 := Nat.le_trans (HL11.out.hi qCm1).2 (Nat.le_of_eq e12)
 have qL12_H6 : H6 ≤ L12 := Nat.le_trans (HL11.out.hi qCm2).2 (Nat.le_of_eq e12)
 have qL12_H4 : H4 ≤ L12 := Nat.le_trans (HL11.out.hi qCm3).2 (Nat.le_of_eq e12)
 have qH12_L12 : L12 ≤ H12 := (by rw [← e12, ← f12]; exact h.size)
 have HL12 := Lib.hid (show Lg w w12 [(R3, (qC7 n0 n1 n2 n3 n4 n5 n6 n7 ad st lf (some ⟨g4, 0, none⟩) N1 N1 (some ⟨g6, 0, none⟩) N2 N2 a8 N3 N3 a10 N4 N4), 48), (R2, (qC3), 48), (R1, (qC2 n0 n1 n2 n3 n4 n5 n6 n7 ad st lf a1 N1 c1 a2 N2 c2 a3 N3 c3 a4 N4 c4 a5 N5 c5 sq), 34)] [(L12, H12, fun W => RsNew gtL 3 144 L12 H12 W a12 g), (L10, H10, fun W => RsNew dvL 10 162 L10 H10 W a10 d), (L8, H8, fun W => RsNew seL 7 159 L8 H8 W a8 t), (L6, H6, fun W => NewIn L6 H6 W (some ⟨g6, 0, none⟩) q), (L4, H4, fun W => NumsNew L4 H4 W (some ⟨g4, 0, none⟩) tk)] from HL11.out.made e12 f12 h (by rw [← e12, ← f12]; exact hn.solid))
 clear h hn e12 f12
 go_wp2_with (first
  | (refine wpList_put_at rfl 46 (.tmp 23) (.tmp 22) rfl rfl (R3) 15 rfl (.slice a12 N5 N5) rfl #[.slice a12 N5 N5] rfl 48 (qC7 n0 n1 n2 n3 n4 n5 n6 n7 ad st lf (some ⟨g4, 0, none⟩) N1 N1 (some ⟨g6, 0, none⟩) N2 N2 a8 N3 N3 a10 N4 N4) #[.int .i64 n0, .int .i64 n1, .int .i64 n2, .int .i64 n3, .int .i64 n4, .int .i64 n5, .int .i64 n6, .bool n7, .int .i64 ad, .int .i64 st, .int .i64 lf, .slice (some ⟨g4, 0, none⟩) N1 N1, .slice (some ⟨g6, 0, none⟩) N2 N2, .slice a8 N3 N3, .slice a10 N4 N4, .slice a12 N5 N5, .int .i64 0] (HL12.out.get (.head _)) (by kernel_rfl) (by kernel_rfl) (by kernel_rfl) (by kernel_rfl) ?_; intro w13 g13 o13; have HL13 := Lib.hid (show Lg w w13 [(R3, #[.int .i64 n0, .int .i64 n1, .int .i64 n2, .int .i64 n3, .int .i64 n4, .int .i64 n5, .int .i64 n6, .bool n7, .int .i64 ad, .int .i64 st, .int .i64 lf, .slice (some ⟨g4, 0, none⟩) N1 N1, .slice (some ⟨g6, 0, none⟩) N2 N2, .slice a8 N3 N3, .slice a10 N4 N4, .slice a12 N5 N5, .int .i64 0], 48), (R2, (qC3), 48), (R1, (qC2 n0 n1 n2 n3 n4 n5 n6 n7 ad st lf a1 N1 c1 a2 N2 c2 a3 N3 c3 a4 N4 c4 a5 N5 c5 sq), 34)] [(L12, H12, fun W => RsNew gtL 3 144 L12 H12 W a12 g), (L10, H10, fun W => RsNew dvL 10 162 L10 H10 W a10 d), (L8, H8, fun W => RsNew seL 7 159 L8 H8 W a8 t), (L6, H6, fun W => NewIn L6 H6 W (some ⟨g6, 0, none⟩) q), (L4, H4, fun W => NumsNew L4 H4 W (some ⟨g4, 0, none⟩) tk)] from HL12.out.put 0 rfl g13 o13 (qCf ⟨Nat.ne_of_lt qR3_R2, (qCf ⟨Nat.ne_of_lt qR3_R1, (fun _ h => nomatch h)⟩)⟩) (qCf ⟨.inr qL12_R3, (qCf ⟨.inr qL10_R3, (qCf ⟨.inr qL8_R3, (qCf ⟨.inr qL6_R3, (qCf ⟨.inr qL4_R3, (fun _ h => nomatch h)⟩)⟩)⟩)⟩)⟩) rfl); clear g13 o13)
  | (refine wpList_load_one rfl 2 (.tmp 24) rfl (R1) 16 rfl 34 (qC2 n0 n1 n2 n3 n4 n5 n6 n7 ad st lf a1 N1 c1 a2 N2 c2 a3 N3 c3 a4 N4 c4 a5 N5 c5 sq) (0, 0) (HL13.out.get qCm2) (.int .i64 sq) rfl _ Tryz.underlying2 rfl (by kernel_rfl) ?_)
  | (refine wpList_put_at rfl 2 (.tmp 26) (.tmp 25) rfl rfl (R3) 16 rfl (.int .i64 sq) rfl #[.int .i64 sq] rfl 48 #[.int .i64 n0, .int .i64 n1, .int .i64 n2, .int .i64 n3, .int .i64 n4, .int .i64 n5, .int .i64 n6, .bool n7, .int .i64 ad, .int .i64 st, .int .i64 lf, .slice (some ⟨g4, 0, none⟩) N1 N1, .slice (some ⟨g6, 0, none⟩) N2 N2, .slice a8 N3 N3, .slice a10 N4 N4, .slice a12 N5 N5, .int .i64 0] (qC2 n0 n1 n2 n3 n4 n5 n6 n7 ad st lf (some ⟨g4, 0, none⟩) N1 N1 (some ⟨g6, 0, none⟩) N2 N2 a8 N3 N3 a10 N4 N4 a12 N5 N5 sq) (HL13.out.get (.head _)) (by kernel_rfl) (by kernel_rfl) (by kernel_rfl) (by kernel_rfl) ?_; intro w14 g14 o14; have HL14 := Lib.hid (show Lg w w14 [(R3, (qC2 n0 n1 n2 n3 n4 n5 n6 n7 ad st lf (some ⟨g4, 0, none⟩) N1 N1 (some ⟨g6, 0, none⟩) N2 N2 a8 N3 N3 a10 N4 N4 a12 N5 N5 sq), 48), (R2, (qC3), 48), (R1, (qC2 n0 n1 n2 n3 n4 n5 n6 n7 ad st lf a1 N1 c1 a2 N2 c2 a3 N3 c3 a4 N4 c4 a5 N5 c5 sq), 34)] [(L12, H12, fun W => RsNew gtL 3 144 L12 H12 W a12 g), (L10, H10, fun W => RsNew dvL 10 162 L10 H10 W a10 d), (L8, H8, fun W => RsNew seL 7 159 L8 H8 W a8 t), (L6, H6, fun W => NewIn L6 H6 W (some ⟨g6, 0, none⟩) q), (L4, H4, fun W => NumsNew L4 H4 W (some ⟨g4, 0, none⟩) tk)] from HL13.out.put 0 rfl g14 o14 (qCf ⟨Nat.ne_of_lt qR3_R2, (qCf ⟨Nat.ne_of_lt qR3_R1, (fun _ h => nomatch h)⟩)⟩) (qCf ⟨.inr qL12_R3, (qCf ⟨.inr qL10_R3, (qCf ⟨.inr qL8_R3, (qCf ⟨.inr qL6_R3, (qCf ⟨.inr qL4_R3, (fun _ h => nomatch h)⟩)⟩)⟩)⟩)⟩) rfl); clear g14 o14)
  | (refine wpList_load_at rfl 48 (.tmp 3) rfl (R3) 0 rfl 48 (qC2 n0 n1 n2 n3 n4 n5 n6 n7 ad st lf (some ⟨g4, 0, none⟩) N1 N1 (some ⟨g6, 0, none⟩) N2 N2 a8 N3 N3 a10 N4 N4 a12 N5 N5 sq) (0, 0) (HL14.out.get (.head _)) [.int .i64 n0, .int .i64 n1, .int .i64 n2, .int .i64 n3, .int .i64 n4, .int .i64 n5, .int .i64 n6, .bool n7, .int .i64 ad, .int .i64 st, .int .i64 lf, .slice (some ⟨g4, 0, none⟩) N1 N1, .slice (some ⟨g6, 0, none⟩) N2 N2, .slice a8 N3 N3, .slice a10 N4 N4, .slice a12 N5 N5, .int .i64 sq] rfl _ Tryz.underlying48 rfl (by kernel_rfl) ?_)
  | (refine wpList_put_at rfl 48 (.tmp 2) (.tmp 27) rfl rfl (R2) 0 rfl _ rfl #[.int .i64 n0, .int .i64 n1, .int .i64 n2, .int .i64 n3, .int .i64 n4, .int .i64 n5, .int .i64 n6, .bool n7, .int .i64 ad, .int .i64 st, .int .i64 lf, .slice (some ⟨g4, 0, none⟩) N1 N1, .slice (some ⟨g6, 0, none⟩) N2 N2, .slice a8 N3 N3, .slice a10 N4 N4, .slice a12 N5 N5, .int .i64 sq] rfl 48 (qC3) (qC2 n0 n1 n2 n3 n4 n5 n6 n7 ad st lf (some ⟨g4, 0, none⟩) N1 N1 (some ⟨g6, 0, none⟩) N2 N2 a8 N3 N3 a10 N4 N4 a12 N5 N5 sq) (HL14.out.get qCm1) (by kernel_rfl) (by kernel_rfl) (by kernel_rfl) (by kernel_rfl) ?_; intro w15 g15 o15; have HL15 := Lib.hid (show Lg w w15 [(R3, (qC2 n0 n1 n2 n3 n4 n5 n6 n7 ad st lf (some ⟨g4, 0, none⟩) N1 N1 (some ⟨g6, 0, none⟩) N2 N2 a8 N3 N3 a10 N4 N4 a12 N5 N5 sq), 48), (R2, (qC2 n0 n1 n2 n3 n4 n5 n6 n7 ad st lf (some ⟨g4, 0, none⟩) N1 N1 (some ⟨g6, 0, none⟩) N2 N2 a8 N3 N3 a10 N4 N4 a12 N5 N5 sq), 48), (R1, (qC2 n0 n1 n2 n3 n4 n5 n6 n7 ad st lf a1 N1 c1 a2 N2 c2 a3 N3 c3 a4 N4 c4 a5 N5 c5 sq), 34)] [(L12, H12, fun W => RsNew gtL 3 144 L12 H12 W a12 g), (L10, H10, fun W => RsNew dvL 10 162 L10 H10 W a10 d), (L8, H8, fun W => RsNew seL 7 159 L8 H8 W a8 t), (L6, H6, fun W => NewIn L6 H6 W (some ⟨g6, 0, none⟩) q), (L4, H4, fun W => NumsNew L4 H4 W (some ⟨g4, 0, none⟩) tk)] from HL14.out.put 1 rfl g15 o15 (qCf ⟨Nat.ne_of_gt qR3_R2, (qCf ⟨Nat.ne_of_lt qR2_R1, (fun _ h => nomatch h)⟩)⟩) (qCf ⟨.inr qL12_R2, (qCf ⟨.inr qL10_R2, (qCf ⟨.inr qL8_R2, (qCf ⟨.inr qL6_R2, (qCf ⟨.inr qL4_R2, (fun _ h => nomatch h)⟩)⟩)⟩)⟩)⟩) rfl); clear g15 o15))
 have hfin : NdNew w.heap.size w15.heap.size w15 (some ⟨g4, 0, none⟩) (some ⟨g6, 0, none⟩) a8 a10 a12 ⟨⟨⟨n0, n1, n2, n3, n4, n5, n6, n7⟩, ad, st, lf, tk⟩, q, t, d, g, sq⟩ := ⟨L4, H4, L6, H6, L8, H8, L10, H10, L12, H12, ⟨HL15.out.lo (.tail _ qCm3), (HL15.out.hi (.tail _ qCm3)).1, (HL15.out.hi (.tail _ qCm3)).2⟩, ⟨HL15.out.lo qCm3, (HL15.out.hi qCm3).1, (HL15.out.hi qCm3).2⟩, ⟨HL15.out.lo qCm2, (HL15.out.hi qCm2).1, (HL15.out.hi qCm2).2⟩, ⟨HL15.out.lo qCm1, (HL15.out.hi qCm1).1, (HL15.out.hi qCm1).2⟩, ⟨HL15.out.lo (.head _), (HL15.out.hi (.head _)).1, (HL15.out.hi (.head _)).2⟩, .inl qL6_H4, .inl qL8_H4, .inl qL10_H4, .inl qL12_H4, .inl qL8_H6, .inl qL10_H6, .inl qL12_H6, .inl qL10_H8, .inl qL12_H8, .inl qL12_H10, HL15.out.at (.tail _ qCm3), HL15.out.at qCm3, HL15.out.at qCm2, HL15.out.at qCm1, HL15.out.at (.head _)⟩
 exact bodyPost_ret (results_cell_row (p := 2) (ty := 48) (by kernel_rfl) _ _ (R2) 48 _ (0, 0) _ rfl (HL15.out.get qCm1) Tryz.underlying48 rfl (by kernel_rfl)) rfl ⟨some ⟨g4, 0, none⟩, some ⟨g6, 0, none⟩, a8, a10, a12, rfl, hfin, HL15.out.below⟩
set_option maxRecDepth 100000 in
set_option maxHeartbeats 8000000 in
theorem eqNode_same (x : Nd) (a1 a2 a3 a4 a5 y1 y2 y3 y4 y5 : Option Addr) (c1 c2 c3 c4 c5 z1 z2 z3 z4 z5 : Nat) (w : World) (h : NdIn w a1 a2 a3 a4 a5 x) (h' : NdIn w y1 y2 y3 y4 y5 x) (hs : NdSmall x) :
  Calls Tryz.prog 13 #[ndV x a1 a2 a3 a4 a5 c1 c2 c3 c4 c5, ndV x y1 y2 y3 y4 y5 z1 z2 z3 z4 z5] w fun e w' => e = .returned (.bool true) ∧ Below w.heap.size w w' := by
 unfold NdSmall at hs
 obtain ⟨⟨⟨n0, n1, n2, n3, n4, n5, n6, n7⟩, ad, st, lf, tk⟩, q, t, d, g, sq⟩ := x
 unfold ndV
 dsimp only at *
 obtain ⟨i1, i2, i3, i4, i5⟩ := h
 obtain ⟨j1, j2, j3, j4, j5⟩ := h'
 obtain ⟨s1, s2, ⟨s3, -⟩, s4, s5, -⟩ := hs
 dsimp only at *
 have HI1 := Lib.hid i1
 have HJ1 := Lib.hid j1
 have HI2 := Lib.hid i2
 have HJ2 := Lib.hid j2
 have HI3 := Lib.hid i3
 have HJ3 := Lib.hid j3
 have HI4 := Lib.hid i4
 have HJ4 := Lib.hid j4
 have HI5 := Lib.hid i5
 have HJ5 := Lib.hid j5
 have HC1 := fun W h h' => Lib.hid (eqClaim_same ⟨n0, n1, n2, n3, n4, n5, n6, n7⟩ ad st lf a1 y1 c1 z1 tk W h h' s1)
 have HC2 := fun W h h' => Lib.hid (eqQueue_same a2 y2 c2 z2 q W h h' s2)
 have HC3 := fun W h h' => Lib.hid (eqSessionS_same a3 y3 c3 z3 t W h h' s3)
 have HC4 := fun W h h' => Lib.hid (eqDeviceS_same a4 y4 c4 z4 d W h h' s4)
 have HC5 := fun W h h' => Lib.hid (eqGotS_same a5 y5 c5 z5 g W h h' s5)
 unfold clV at HC1
 dsimp only at HC1
 clear i1 i2 i3 i4 i5 j1 j2 j3 j4 j5 s1 s2 s3 s4 s5
 have hqq : (sq != sq) = false := by simp
 generalize eN1 : tk.length = N1 at *
 generalize eN2 : q.length = N2 at *
 generalize eN3 : t.length = N3 at *
 generalize eN4 : d.length = N4 at *
 generalize eN5 : g.length = N5 at *
 have HEN := Lib.hid (And.intro eN1 (And.intro eN2 (And.intro eN3 (And.intro eN4 eN5))))
 clear eN1 eN2 eN3 eN4 eN5
 clear HEN
 go_enter Tryz.func13, Tryz.ntmps13
 go_wp2_with (first
  | (refine wpList_box_h rfl 48 (.tmp 0) rfl #[.int .i64 n0, .int .i64 n1, .int .i64 n2, .int .i64 n3, .int .i64 n4, .int .i64 n5, .int .i64 n6, .bool n7, .int .i64 ad, .int .i64 st, .int .i64 lf, .slice a1 N1 c1, .slice a2 N2 c2, .slice a3 N3 c3, .slice a4 N4 c4, .slice a5 N5 c5, .int .i64 sq] rfl ?_; intro w1 R1 e1 g1 b1; have HL1 := Lib.hid (show Lg w w1 [(R1, (qC2 n0 n1 n2 n3 n4 n5 n6 n7 ad st lf a1 N1 c1 a2 N2 c2 a3 N3 c3 a4 N4 c4 a5 N5 c5 sq), 48)] [] from (Lg.first w).box e1 g1 b1); clear g1 b1 e1)
  | (refine wpList_box_h rfl 48 (.tmp 1) rfl #[.int .i64 n0, .int .i64 n1, .int .i64 n2, .int .i64 n3, .int .i64 n4, .int .i64 n5, .int .i64 n6, .bool n7, .int .i64 ad, .int .i64 st, .int .i64 lf, .slice y1 N1 z1, .slice y2 N2 z2, .slice y3 N3 z3, .slice y4 N4 z4, .slice y5 N5 z5, .int .i64 sq] rfl ?_; intro w2 R2 e2 g2 b2; have qR2_R1 : R1 < R2 := Nat.lt_of_lt_of_eq (HL1.out.lt (.head _)) e2; have HL2 := Lib.hid (show Lg w w2 [(R2, (qC2 n0 n1 n2 n3 n4 n5 n6 n7 ad st lf y1 N1 z1 y2 N2 z2 y3 N3 z3 y4 N4 z4 y5 N5 z5 sq), 48), (R1, (qC2 n0 n1 n2 n3 n4 n5 n6 n7 ad st lf a1 N1 c1 a2 N2 c2 a3 N3 c3 a4 N4 c4 a5 N5 c5 sq), 48)] [] from HL1.out.box e2 g2 b2); clear g2 b2 e2)
  | (refine wpList_load_at rfl 40 (.tmp 5) rfl (R1) 0 rfl 48 (qC2 n0 n1 n2 n3 n4 n5 n6 n7 ad st lf a1 N1 c1 a2 N2 c2 a3 N3 c3 a4 N4 c4 a5 N5 c5 sq) (0, 0) (HL2.out.get qCm1) [.int .i64 n0, .int .i64 n1, .int .i64 n2, .int .i64 n3, .int .i64 n4, .int .i64 n5, .int .i64 n6, .bool n7, .int .i64 ad, .int .i64 st, .int .i64 lf, .slice a1 N1 c1] rfl _ Tryz.underlying40 rfl (by kernel_rfl) ?_)
  | (refine wpList_load_at rfl 40 (.tmp 7) rfl (R2) 0 rfl 48 (qC2 n0 n1 n2 n3 n4 n5 n6 n7 ad st lf y1 N1 z1 y2 N2 z2 y3 N3 z3 y4 N4 z4 y5 N5 z5 sq) (0, 0) (HL2.out.get (.head _)) [.int .i64 n0, .int .i64 n1, .int .i64 n2, .int .i64 n3, .int .i64 n4, .int .i64 n5, .int .i64 n6, .bool n7, .int .i64 ad, .int .i64 st, .int .i64 lf, .slice y1 N1 z1] rfl _ Tryz.underlying40 rfl (by kernel_rfl) ?_))
 refine ((HC1 _ (HI1.out.kept HL2.out.below) (HJ1.out.kept HL2.out.below)).out).mono ?_
 rintro e w3 ⟨rfl, h⟩
 have HL3 := Lib.hid (show Lg w w3 [(R2, (qC2 n0 n1 n2 n3 n4 n5 n6 n7 ad st lf y1 N1 z1 y2 N2 z2 y3 N3 z3 y4 N4 z4 y5 N5 z5 sq), 48), (R1, (qC2 n0 n1 n2 n3 n4 n5 n6 n7 ad st lf a1 N1 c1 a2 N2 c2 a3 N3 c3 a4 N4 c4 a5 N5 c5 sq), 48)] [] from HL2.out.kept h)
 clear h
 go_wp2_with (first
  | (refine wpList_load_at rfl 43 (.tmp 11) rfl (R1) 12 rfl 48 (qC2 n0 n1 n2 n3 n4 n5 n6 n7 ad st lf a1 N1 c1 a2 N2 c2 a3 N3 c3 a4 N4 c4 a5 N5 c5 sq) (0, 0) (HL3.out.get qCm1) [.slice a2 N2 c2] rfl _ Tryz.underlying43 rfl (by kernel_rfl) ?_)
  | (refine wpList_load_at rfl 43 (.tmp 13) rfl (R2) 12 rfl 48 (qC2 n0 n1 n2 n3 n4 n5 n6 n7 ad st lf y1 N1 z1 y2 N2 z2 y3 N3 z3 y4 N4 z4 y5 N5 z5 sq) (0, 0) (HL3.out.get (.head _)) [.slice y2 N2 z2] rfl _ Tryz.underlying43 rfl (by kernel_rfl) ?_))
 refine ((HC2 _ (HI2.out.kept HL3.out.below) (HJ2.out.kept HL3.out.below)).out).mono ?_
 rintro e w4 ⟨rfl, h⟩
 have HL4 := Lib.hid (show Lg w w4 [(R2, (qC2 n0 n1 n2 n3 n4 n5 n6 n7 ad st lf y1 N1 z1 y2 N2 z2 y3 N3 z3 y4 N4 z4 y5 N5 z5 sq), 48), (R1, (qC2 n0 n1 n2 n3 n4 n5 n6 n7 ad st lf a1 N1 c1 a2 N2 c2 a3 N3 c3 a4 N4 c4 a5 N5 c5 sq), 48)] [] from HL3.out.kept h)
 clear h
 go_wp2_with (first
  | (refine wpList_load_one rfl 44 (.tmp 17) rfl (R1) 13 rfl 48 (qC2 n0 n1 n2 n3 n4 n5 n6 n7 ad st lf a1 N1 c1 a2 N2 c2 a3 N3 c3 a4 N4 c4 a5 N5 c5 sq) (0, 0) (HL4.out.get qCm1) (.slice a3 N3 c3) rfl _ Tryz.underlying44 rfl (by kernel_rfl) ?_)
  | (refine wpList_load_one rfl 44 (.tmp 19) rfl (R2) 13 rfl 48 (qC2 n0 n1 n2 n3 n4 n5 n6 n7 ad st lf y1 N1 z1 y2 N2 z2 y3 N3 z3 y4 N4 z4 y5 N5 z5 sq) (0, 0) (HL4.out.get (.head _)) (.slice y3 N3 z3) rfl _ Tryz.underlying44 rfl (by kernel_rfl) ?_))
 refine ((HC3 _ (HI3.out.kept HL4.out.below) (HJ3.out.kept HL4.out.below)).out).mono ?_
 rintro e w5 ⟨rfl, h⟩
 have HL5 := Lib.hid (show Lg w w5 [(R2, (qC2 n0 n1 n2 n3 n4 n5 n6 n7 ad st lf y1 N1 z1 y2 N2 z2 y3 N3 z3 y4 N4 z4 y5 N5 z5 sq), 48), (R1, (qC2 n0 n1 n2 n3 n4 n5 n6 n7 ad st lf a1 N1 c1 a2 N2 c2 a3 N3 c3 a4 N4 c4 a5 N5 c5 sq), 48)] [] from HL4.out.kept h)
 clear h
 go_wp2_with (first
  | (refine wpList_load_one rfl 45 (.tmp 23) rfl (R1) 14 rfl 48 (qC2 n0 n1 n2 n3 n4 n5 n6 n7 ad st lf a1 N1 c1 a2 N2 c2 a3 N3 c3 a4 N4 c4 a5 N5 c5 sq) (0, 0) (HL5.out.get qCm1) (.slice a4 N4 c4) rfl _ Tryz.underlying45 rfl (by kernel_rfl) ?_)
  | (refine wpList_load_one rfl 45 (.tmp 25) rfl (R2) 14 rfl 48 (qC2 n0 n1 n2 n3 n4 n5 n6 n7 ad st lf y1 N1 z1 y2 N2 z2 y3 N3 z3 y4 N4 z4 y5 N5 z5 sq) (0, 0) (HL5.out.get (.head _)) (.slice y4 N4 z4) rfl _ Tryz.underlying45 rfl (by kernel_rfl) ?_))
 refine ((HC4 _ (HI4.out.kept HL5.out.below) (HJ4.out.kept HL5.out.below)).out).mono ?_
 rintro e w6 ⟨rfl, h⟩
 have HL6 := Lib.hid (show Lg w w6 [(R2, (qC2 n0 n1 n2 n3 n4 n5 n6 n7 ad st lf y1 N1 z1 y2 N2 z2 y3 N3 z3 y4 N4 z4 y5 N5 z5 sq), 48), (R1, (qC2 n0 n1 n2 n3 n4 n5 n6 n7 ad st lf a1 N1 c1 a2 N2 c2 a3 N3 c3 a4 N4 c4 a5 N5 c5 sq), 48)] [] from HL5.out.kept h)
 clear h
 go_wp2_with (first
  | (refine wpList_load_one rfl 46 (.tmp 29) rfl (R1) 15 rfl 48 (qC2 n0 n1 n2 n3 n4 n5 n6 n7 ad st lf a1 N1 c1 a2 N2 c2 a3 N3 c3 a4 N4 c4 a5 N5 c5 sq) (0, 0) (HL6.out.get qCm1) (.slice a5 N5 c5) rfl _ Tryz.underlying46 rfl (by kernel_rfl) ?_)
  | (refine wpList_load_one rfl 46 (.tmp 31) rfl (R2) 15 rfl 48 (qC2 n0 n1 n2 n3 n4 n5 n6 n7 ad st lf y1 N1 z1 y2 N2 z2 y3 N3 z3 y4 N4 z4 y5 N5 z5 sq) (0, 0) (HL6.out.get (.head _)) (.slice y5 N5 z5) rfl _ Tryz.underlying46 rfl (by kernel_rfl) ?_))
 refine ((HC5 _ (HI5.out.kept HL6.out.below) (HJ5.out.kept HL6.out.below)).out).mono ?_
 rintro e w7 ⟨rfl, h⟩
 have HL7 := Lib.hid (show Lg w w7 [(R2, (qC2 n0 n1 n2 n3 n4 n5 n6 n7 ad st lf y1 N1 z1 y2 N2 z2 y3 N3 z3 y4 N4 z4 y5 N5 z5 sq), 48), (R1, (qC2 n0 n1 n2 n3 n4 n5 n6 n7 ad st lf a1 N1 c1 a2 N2 c2 a3 N3 c3 a4 N4 c4 a5 N5 c5 sq), 48)] [] from HL6.out.kept h)
 clear h
 go_wp2_with (first
  | (refine wpList_load_one rfl 2 (.tmp 35) rfl (R1) 16 rfl 48 (qC2 n0 n1 n2 n3 n4 n5 n6 n7 ad st lf a1 N1 c1 a2 N2 c2 a3 N3 c3 a4 N4 c4 a5 N5 c5 sq) (0, 0) (HL7.out.get qCm1) (.int .i64 sq) rfl _ Tryz.underlying2 rfl (by kernel_rfl) ?_)
  | (refine wpList_load_one rfl 2 (.tmp 37) rfl (R2) 16 rfl 48 (qC2 n0 n1 n2 n3 n4 n5 n6 n7 ad st lf y1 N1 z1 y2 N2 z2 y3 N3 z3 y4 N4 z4 y5 N5 z5 sq) (0, 0) (HL7.out.get (.head _)) (.int .i64 sq) rfl _ Tryz.underlying2 rfl (by kernel_rfl) ?_))
 go_ret
 exact ⟨rfl, HL7.out.below⟩
def markNd (x : Nd) : Nd := ⟨⟨x.c.n, x.c.ad, x.c.st, x.c.lf, nmarks 1 x.c.tk.length⟩, marksL (1 + x.c.tk.length) x.q.length, marksSe (1 + x.c.tk.length + 2 * x.q.length) x.t.length, marksDv (1 + x.c.tk.length + 2 * x.q.length + 7 * x.t.length) x.d.length, marksGt (1 + x.c.tk.length + 2 * x.q.length + 7 * x.t.length + 10 * x.d.length) x.g.length, x.s⟩
def endNd (x : Nd) : Nat := 1 + x.c.tk.length + 2 * x.q.length + 7 * x.t.length + 10 * x.d.length + 3 * x.g.length
set_option maxRecDepth 100000 in
set_option maxHeartbeats 8000000 in
theorem markNode_1 {lo hi : Nat} (x : Nd) (a1 a2 a3 a4 a5 : Option Addr) (c1 c2 c3 c4 c5 : Nat) (w : World) (k : NdNew lo hi w a1 a2 a3 a4 a5 x) (hhi : hi ≤ w.heap.size) (hs : NdSmall x) :
  Calls Tryz.prog 15 #[ndV x a1 a2 a3 a4 a5 c1 c2 c3 c4 c5, .int .i64 1] w fun e w' => e = .returned (.int .i64 ((endNd x : Nat) : Int)) ∧ NdNew lo hi w' a1 a2 a3 a4 a5 (markNd x) ∧ Out lo hi w w' := by
 unfold NdSmall at hs
 unfold endNd markNd
 obtain ⟨⟨⟨n0, n1, n2, n3, n4, n5, n6, n7⟩, ad, st, lf, tk⟩, q, t, d, g, sq⟩ := x
 unfold ndV
 dsimp only at *
 obtain ⟨l1, h1, l2, h2, l3, h3, l4, h4, l5, h5, b1, b2, b3, b4, b5, d12, d13, d14, d15, d23, d24, d25, d34, d35, d45, k1, k2, k3, k4, k5⟩ := k
 obtain ⟨s1, s2, ⟨s3, -⟩, s4, s5, -⟩ := hs
 dsimp only at *
 have HC1 := fun W h => Lib.hid (markClaim_any (lo := l1) (hi := h1) ⟨n0, n1, n2, n3, n4, n5, n6, n7⟩ ad st lf a1 c1 tk 1 W h (by omega) (by omega))
 have HC2 := fun W h => Lib.hid (markQueue_any (lo := l2) (hi := h2) a2 c2 q (1 + tk.length) W h (by omega) (by omega))
 have HC3 := fun W h => Lib.hid (markSessionS_any (lo := l3) (hi := h3) a3 c3 t (1 + tk.length + 2 * q.length) W h (by omega) (by omega))
 have HC4 := fun W h => Lib.hid (markDeviceS_any (lo := l4) (hi := h4) a4 c4 d (1 + tk.length + 2 * q.length + 7 * t.length) W h (by omega) (by omega))
 have HC5 := fun W h => Lib.hid (markGotS_any (lo := l5) (hi := h5) a5 c5 g (1 + tk.length + 2 * q.length + 7 * t.length + 10 * d.length) W h (by omega) (by omega))
 unfold clV at HC1
 dsimp only at HC1
 have HK1 := Lib.hid k1
 have HK2 := Lib.hid k2
 have HK3 := Lib.hid k3
 have HK4 := Lib.hid k4
 have HK5 := Lib.hid k5
 clear k1 k2 k3 k4 k5 s1 s2 s3 s4 s5
 generalize eN1 : tk.length = N1 at *
 generalize eN2 : q.length = N2 at *
 generalize eN3 : t.length = N3 at *
 generalize eN4 : d.length = N4 at *
 generalize eN5 : g.length = N5 at *
 have HEN := Lib.hid (And.intro eN1 (And.intro eN2 (And.intro eN3 (And.intro eN4 eN5))))
 clear eN1 eN2 eN3 eN4 eN5
 clear HEN
 obtain ⟨K1, eK1⟩ : ∃ K, 1 + N1 = K := ⟨_, rfl⟩
 rw [eK1] at HC1 HC2 HC3 HC4 HC5 ⊢
 obtain ⟨K2, eK2⟩ : ∃ K, K1 + 2 * N2 = K := ⟨_, rfl⟩
 rw [eK2] at HC2 HC3 HC4 HC5 ⊢
 obtain ⟨K3, eK3⟩ : ∃ K, K2 + 7 * N3 = K := ⟨_, rfl⟩
 rw [eK3] at HC3 HC4 HC5 ⊢
 obtain ⟨K4, eK4⟩ : ∃ K, K3 + 10 * N4 = K := ⟨_, rfl⟩
 rw [eK4] at HC4 HC5 ⊢
 obtain ⟨K5, eK5⟩ : ∃ K, K4 + 3 * N5 = K := ⟨_, rfl⟩
 rw [eK5] at HC5 ⊢
 clear eK1 eK2 eK3 eK4 eK5
 go_enter Tryz.func15, Tryz.ntmps15
 go_wp2_with (first
  | (refine wpList_box_h rfl 48 (.tmp 0) rfl #[.int .i64 n0, .int .i64 n1, .int .i64 n2, .int .i64 n3, .int .i64 n4, .int .i64 n5, .int .i64 n6, .bool n7, .int .i64 ad, .int .i64 st, .int .i64 lf, .slice a1 N1 c1, .slice a2 N2 c2, .slice a3 N3 c3, .slice a4 N4 c4, .slice a5 N5 c5, .int .i64 sq] rfl ?_; intro w1 R1 e1 g1 b1; have HL1 := Lib.hid (show Lg w w1 [(R1, (qC2 n0 n1 n2 n3 n4 n5 n6 n7 ad st lf a1 N1 c1 a2 N2 c2 a3 N3 c3 a4 N4 c4 a5 N5 c5 sq), 48)] [] from (Lg.first w).box e1 g1 b1); clear g1 b1 e1)
  | (refine wpList_load_at rfl 40 (.tmp 5) rfl (R1) 0 rfl 48 (qC2 n0 n1 n2 n3 n4 n5 n6 n7 ad st lf a1 N1 c1 a2 N2 c2 a3 N3 c3 a4 N4 c4 a5 N5 c5 sq) (0, 0) (HL1.out.get (.head _)) [.int .i64 n0, .int .i64 n1, .int .i64 n2, .int .i64 n3, .int .i64 n4, .int .i64 n5, .int .i64 n6, .bool n7, .int .i64 ad, .int .i64 st, .int .i64 lf, .slice a1 N1 c1] rfl _ Tryz.underlying40 rfl (by kernel_rfl) ?_))
 have HR1 := Lib.hid (HL1.out.get (.head _))
 have hge1 := HL1.out.ge (.head _)
 have HQ1 := Lib.hid (Out.of_below (lo := lo) (hi := hi) HL1.out.below)
 have HG1_1 := Lib.hid (HK1.out.kept HL1.out.below)
 have HG2_1 := Lib.hid (HK2.out.kept HL1.out.below)
 have HG3_1 := Lib.hid (HK3.out.kept HL1.out.below)
 have HG4_1 := Lib.hid (HK4.out.kept HL1.out.below)
 have HG5_1 := Lib.hid (HK5.out.kept HL1.out.below)
 have hhi1 : hi ≤ w1.heap.size := Nat.le_trans hhi HL1.out.below.size
 have hlt1 : R1 < w1.heap.size := HL1.out.lt (.head _)
 refine (HC1 _ HG1_1.out).out.mono ?_
 rintro e w2 ⟨rfl, hn, ho⟩
 have HR2 := Lib.hid ((ho.block R1 hlt1 (.inr (by omega))).trans HR1.out)
 have HG1_2 := Lib.hid hn
 have HG2_2 := Lib.hid (HG2_1.out.out ho (by omega))
 have HG3_2 := Lib.hid (HG3_1.out.out ho (by omega))
 have HG4_2 := Lib.hid (HG4_1.out.out ho (by omega))
 have HG5_2 := Lib.hid (HG5_1.out.out ho (by omega))
 have HQ2 := Lib.hid (HQ1.out.trans (ho.span2 (lo2 := lo) (hi2 := hi) (by omega) (by omega)))
 have hlt2 : R1 < w2.heap.size := Nat.lt_of_lt_of_le hlt1 ho.size
 clear hn ho
 go_wp2_with (first
  | (refine wpList_load_at rfl 43 (.tmp 9) rfl (R1) 12 rfl 48 #[.int .i64 n0, .int .i64 n1, .int .i64 n2, .int .i64 n3, .int .i64 n4, .int .i64 n5, .int .i64 n6, .bool n7, .int .i64 ad, .int .i64 st, .int .i64 lf, .slice a1 N1 c1, .slice a2 N2 c2, .slice a3 N3 c3, .slice a4 N4 c4, .slice a5 N5 c5, .int .i64 sq] (0, 0) HR2.out [.slice a2 N2 c2] rfl _ Tryz.underlying43 rfl (by kernel_rfl) ?_))
 refine (HC2 _ HG2_2.out).out.mono ?_
 rintro e w3 ⟨rfl, hn, ho⟩
 have HR3 := Lib.hid ((ho.block R1 hlt2 (.inr (by omega))).trans HR2.out)
 have HG1_3 := Lib.hid (HG1_2.out.out ho (by omega))
 have HG2_3 := Lib.hid hn
 have HG3_3 := Lib.hid (HG3_2.out.out ho (by omega))
 have HG4_3 := Lib.hid (HG4_2.out.out ho (by omega))
 have HG5_3 := Lib.hid (HG5_2.out.out ho (by omega))
 have HQ3 := Lib.hid (HQ2.out.trans (ho.span2 (lo2 := lo) (hi2 := hi) (by omega) (by omega)))
 have hlt3 : R1 < w3.heap.size := Nat.lt_of_lt_of_le hlt2 ho.size
 clear hn ho
 go_wp2_with (first
  | (refine wpList_load_one rfl 44 (.tmp 13) rfl (R1) 13 rfl 48 #[.int .i64 n0, .int .i64 n1, .int .i64 n2, .int .i64 n3, .int .i64 n4, .int .i64 n5, .int .i64 n6, .bool n7, .int .i64 ad, .int .i64 st, .int .i64 lf, .slice a1 N1 c1, .slice a2 N2 c2, .slice a3 N3 c3, .slice a4 N4 c4, .slice a5 N5 c5, .int .i64 sq] (0, 0) HR3.out (.slice a3 N3 c3) rfl _ Tryz.underlying44 rfl (by kernel_rfl) ?_))
 refine (HC3 _ HG3_3.out).out.mono ?_
 rintro e w4 ⟨rfl, hn, ho⟩
 have HR4 := Lib.hid ((ho.block R1 hlt3 (.inr (by omega))).trans HR3.out)
 have HG1_4 := Lib.hid (HG1_3.out.out ho (by omega))
 have HG2_4 := Lib.hid (HG2_3.out.out ho (by omega))
 have HG3_4 := Lib.hid hn
 have HG4_4 := Lib.hid (HG4_3.out.out ho (by omega))
 have HG5_4 := Lib.hid (HG5_3.out.out ho (by omega))
 have HQ4 := Lib.hid (HQ3.out.trans (ho.span2 (lo2 := lo) (hi2 := hi) (by omega) (by omega)))
 have hlt4 : R1 < w4.heap.size := Nat.lt_of_lt_of_le hlt3 ho.size
 clear hn ho
 go_wp2_with (first
  | (refine wpList_load_one rfl 45 (.tmp 17) rfl (R1) 14 rfl 48 #[.int .i64 n0, .int .i64 n1, .int .i64 n2, .int .i64 n3, .int .i64 n4, .int .i64 n5, .int .i64 n6, .bool n7, .int .i64 ad, .int .i64 st, .int .i64 lf, .slice a1 N1 c1, .slice a2 N2 c2, .slice a3 N3 c3, .slice a4 N4 c4, .slice a5 N5 c5, .int .i64 sq] (0, 0) HR4.out (.slice a4 N4 c4) rfl _ Tryz.underlying45 rfl (by kernel_rfl) ?_))
 refine (HC4 _ HG4_4.out).out.mono ?_
 rintro e w5 ⟨rfl, hn, ho⟩
 have HR5 := Lib.hid ((ho.block R1 hlt4 (.inr (by omega))).trans HR4.out)
 have HG1_5 := Lib.hid (HG1_4.out.out ho (by omega))
 have HG2_5 := Lib.hid (HG2_4.out.out ho (by omega))
 have HG3_5 := Lib.hid (HG3_4.out.out ho (by omega))
 have HG4_5 := Lib.hid hn
 have HG5_5 := Lib.hid (HG5_4.out.out ho (by omega))
 have HQ5 := Lib.hid (HQ4.out.trans (ho.span2 (lo2 := lo) (hi2 := hi) (by omega) (by omega)))
 have hlt5 : R1 < w5.heap.size := Nat.lt_of_lt_of_le hlt4 ho.size
 clear hn ho
 go_wp2_with (first
  | (refine wpList_load_one rfl 46 (.tmp 21) rfl (R1) 15 rfl 48 #[.int .i64 n0, .int .i64 n1, .int .i64 n2, .int .i64 n3, .int .i64 n4, .int .i64 n5, .int .i64 n6, .bool n7, .int .i64 ad, .int .i64 st, .int .i64 lf, .slice a1 N1 c1, .slice a2 N2 c2, .slice a3 N3 c3, .slice a4 N4 c4, .slice a5 N5 c5, .int .i64 sq] (0, 0) HR5.out (.slice a5 N5 c5) rfl _ Tryz.underlying46 rfl (by kernel_rfl) ?_))
 refine (HC5 _ HG5_5.out).out.mono ?_
 rintro e w6 ⟨rfl, hn, ho⟩
 have HR6 := Lib.hid ((ho.block R1 hlt5 (.inr (by omega))).trans HR5.out)
 have HG1_6 := Lib.hid (HG1_5.out.out ho (by omega))
 have HG2_6 := Lib.hid (HG2_5.out.out ho (by omega))
 have HG3_6 := Lib.hid (HG3_5.out.out ho (by omega))
 have HG4_6 := Lib.hid (HG4_5.out.out ho (by omega))
 have HG5_6 := Lib.hid hn
 have HQ6 := Lib.hid (HQ5.out.trans (ho.span2 (lo2 := lo) (hi2 := hi) (by omega) (by omega)))
 have hlt6 : R1 < w6.heap.size := Nat.lt_of_lt_of_le hlt5 ho.size
 clear hn ho
 go_wp2_with fail
 go_ret
 exact ⟨rfl, ⟨l1, h1, l2, h2, l3, h3, l4, h4, l5, h5, b1, b2, b3, b4, b5, d12, d13, d14, d15, d23, d24, d25, d34, d35, d45, HG1_6.out, HG2_6.out, HG3_6.out, HG4_6.out, HG5_6.out⟩, HQ6.out⟩
set_option maxRecDepth 100000 in
set_option maxHeartbeats 8000000 in
theorem heldNode_1 {lo hi : Nat} (x : Nd) (a1 a2 a3 a4 a5 : Option Addr) (c1 c2 c3 c4 c5 : Nat) (w : World) (k : NdNew lo hi w a1 a2 a3 a4 a5 (markNd x)) (hs : NdSmall x) :
  Calls Tryz.prog 62 #[ndV x a1 a2 a3 a4 a5 c1 c2 c3 c4 c5, .int .i64 1] w fun e w' => e = .returned (.int .i64 ((endNd x : Nat) : Int)) ∧ Below w.heap.size w w' := by
 unfold NdSmall at hs
 unfold markNd at k
 unfold endNd
 obtain ⟨⟨⟨n0, n1, n2, n3, n4, n5, n6, n7⟩, ad, st, lf, tk⟩, q, t, d, g, sq⟩ := x
 unfold ndV
 dsimp only at *
 obtain ⟨l1, h1, l2, h2, l3, h3, l4, h4, l5, h5, b1, b2, b3, b4, b5, d12, d13, d14, d15, d23, d24, d25, d34, d35, d45, k1, k2, k3, k4, k5⟩ := k
 obtain ⟨s1, s2, ⟨s3, -⟩, s4, s5, -⟩ := hs
 dsimp only at *
 have HC1 := fun W h => Lib.hid (heldClaim_any ⟨n0, n1, n2, n3, n4, n5, n6, n7⟩ ad st lf a1 c1 tk.length 1 W h (by omega) (by omega))
 have HC2 := fun W h => Lib.hid (heldQueue_any a2 c2 q.length (1 + tk.length) W h (by omega) (by omega))
 have HC3 := fun W h => Lib.hid (heldSessionS_any (lo := l3) (hi := h3) a3 c3 t.length (1 + tk.length + 2 * q.length) W h (by omega) (by omega))
 have HC4 := fun W h => Lib.hid (heldDeviceS_any (lo := l4) (hi := h4) a4 c4 d.length (1 + tk.length + 2 * q.length + 7 * t.length) W h (by omega) (by omega))
 have HC5 := fun W h => Lib.hid (heldGotS_any (lo := l5) (hi := h5) a5 c5 g.length (1 + tk.length + 2 * q.length + 7 * t.length + 10 * d.length) W h (by omega) (by omega))
 unfold clV at HC1
 dsimp only at HC1
 have HK1 := Lib.hid k1.nums
 have HK2 := Lib.hid k2.cans
 have HK3 := Lib.hid k3
 have HK4 := Lib.hid k4
 have HK5 := Lib.hid k5
 clear k1 k2 k3 k4 k5 s1 s2 s3 s4 s5
 generalize eN1 : tk.length = N1 at *
 generalize eN2 : q.length = N2 at *
 generalize eN3 : t.length = N3 at *
 generalize eN4 : d.length = N4 at *
 generalize eN5 : g.length = N5 at *
 have HEN := Lib.hid (And.intro eN1 (And.intro eN2 (And.intro eN3 (And.intro eN4 eN5))))
 clear eN1 eN2 eN3 eN4 eN5
 clear HEN
 obtain ⟨K1, eK1⟩ : ∃ K, 1 + N1 = K := ⟨_, rfl⟩
 rw [eK1] at HC1 HC2 HC3 HC4 HC5 HK2 HK3 HK4 HK5 ⊢
 obtain ⟨K2, eK2⟩ : ∃ K, K1 + 2 * N2 = K := ⟨_, rfl⟩
 rw [eK2] at HC2 HC3 HC4 HC5 HK3 HK4 HK5 ⊢
 obtain ⟨K3, eK3⟩ : ∃ K, K2 + 7 * N3 = K := ⟨_, rfl⟩
 rw [eK3] at HC3 HC4 HC5 HK4 HK5 ⊢
 obtain ⟨K4, eK4⟩ : ∃ K, K3 + 10 * N4 = K := ⟨_, rfl⟩
 rw [eK4] at HC4 HC5 HK5 ⊢
 obtain ⟨K5, eK5⟩ : ∃ K, K4 + 3 * N5 = K := ⟨_, rfl⟩
 rw [eK5] at HC5 ⊢
 clear eK1 eK2 eK3 eK4 eK5
 have hd1 : decide ((K1 : Int) < 0) = false := decide_eq_false (by omega)
 have hd2 : decide ((K2 : Int) < 0) = false := decide_eq_false (by omega)
 have hd3 : decide ((K3 : Int) < 0) = false := decide_eq_false (by omega)
 have hd4 : decide ((K4 : Int) < 0) = false := decide_eq_false (by omega)
 have hd5 : decide ((K5 : Int) < 0) = false := decide_eq_false (by omega)
 go_enter Tryz.func62, Tryz.ntmps62
 go_wp2_with (first
  | (refine wpList_box_h rfl 48 (.tmp 0) rfl #[.int .i64 n0, .int .i64 n1, .int .i64 n2, .int .i64 n3, .int .i64 n4, .int .i64 n5, .int .i64 n6, .bool n7, .int .i64 ad, .int .i64 st, .int .i64 lf, .slice a1 N1 c1, .slice a2 N2 c2, .slice a3 N3 c3, .slice a4 N4 c4, .slice a5 N5 c5, .int .i64 sq] rfl ?_; intro w1 R1 e1 g1 b1; have HL1 := Lib.hid (show Lg w w1 [(R1, (qC2 n0 n1 n2 n3 n4 n5 n6 n7 ad st lf a1 N1 c1 a2 N2 c2 a3 N3 c3 a4 N4 c4 a5 N5 c5 sq), 48)] [] from (Lg.first w).box e1 g1 b1); clear g1 b1 e1)
  | (refine wpList_load_at rfl 40 (.tmp 5) rfl (R1) 0 rfl 48 (qC2 n0 n1 n2 n3 n4 n5 n6 n7 ad st lf a1 N1 c1 a2 N2 c2 a3 N3 c3 a4 N4 c4 a5 N5 c5 sq) (0, 0) (HL1.out.get (.head _)) [.int .i64 n0, .int .i64 n1, .int .i64 n2, .int .i64 n3, .int .i64 n4, .int .i64 n5, .int .i64 n6, .bool n7, .int .i64 ad, .int .i64 st, .int .i64 lf, .slice a1 N1 c1] rfl _ Tryz.underlying40 rfl (by kernel_rfl) ?_))
 refine ((HC1 _ (HK1.out.kept HL1.out.below)).out).mono ?_
 rintro e w2 ⟨rfl, h⟩
 have HL2 := Lib.hid (show Lg w w2 [(R1, (qC2 n0 n1 n2 n3 n4 n5 n6 n7 ad st lf a1 N1 c1 a2 N2 c2 a3 N3 c3 a4 N4 c4 a5 N5 c5 sq), 48)] [] from HL1.out.kept h)
 clear h
 go_wp2_with (first
  | (refine wpList_load_at rfl 43 (.tmp 11) rfl (R1) 12 rfl 48 (qC2 n0 n1 n2 n3 n4 n5 n6 n7 ad st lf a1 N1 c1 a2 N2 c2 a3 N3 c3 a4 N4 c4 a5 N5 c5 sq) (0, 0) (HL2.out.get (.head _)) [.slice a2 N2 c2] rfl _ Tryz.underlying43 rfl (by kernel_rfl) ?_))
 refine ((HC2 _ (HK2.out.kept HL2.out.below)).out).mono ?_
 rintro e w3 ⟨rfl, h⟩
 have HL3 := Lib.hid (show Lg w w3 [(R1, (qC2 n0 n1 n2 n3 n4 n5 n6 n7 ad st lf a1 N1 c1 a2 N2 c2 a3 N3 c3 a4 N4 c4 a5 N5 c5 sq), 48)] [] from HL2.out.kept h)
 clear h
 go_wp2_with (first
  | (refine wpList_load_one rfl 44 (.tmp 17) rfl (R1) 13 rfl 48 (qC2 n0 n1 n2 n3 n4 n5 n6 n7 ad st lf a1 N1 c1 a2 N2 c2 a3 N3 c3 a4 N4 c4 a5 N5 c5 sq) (0, 0) (HL3.out.get (.head _)) (.slice a3 N3 c3) rfl _ Tryz.underlying44 rfl (by kernel_rfl) ?_))
 refine ((HC3 _ (HK3.out.kept HL3.out.below)).out).mono ?_
 rintro e w4 ⟨rfl, h⟩
 have HL4 := Lib.hid (show Lg w w4 [(R1, (qC2 n0 n1 n2 n3 n4 n5 n6 n7 ad st lf a1 N1 c1 a2 N2 c2 a3 N3 c3 a4 N4 c4 a5 N5 c5 sq), 48)] [] from HL3.out.kept h)
 clear h
 go_wp2_with (first
  | (refine wpList_load_one rfl 45 (.tmp 23) rfl (R1) 14 rfl 48 (qC2 n0 n1 n2 n3 n4 n5 n6 n7 ad st lf a1 N1 c1 a2 N2 c2 a3 N3 c3 a4 N4 c4 a5 N5 c5 sq) (0, 0) (HL4.out.get (.head _)) (.slice a4 N4 c4) rfl _ Tryz.underlying45 rfl (by kernel_rfl) ?_))
 refine ((HC4 _ (HK4.out.kept HL4.out.below)).out).mono ?_
 rintro e w5 ⟨rfl, h⟩
 have HL5 := Lib.hid (show Lg w w5 [(R1, (qC2 n0 n1 n2 n3 n4 n5 n6 n7 ad st lf a1 N1 c1 a2 N2 c2 a3 N3 c3 a4 N4 c4 a5 N5 c5 sq), 48)] [] from HL4.out.kept h)
 clear h
 go_wp2_with (first
  | (refine wpList_load_one rfl 46 (.tmp 29) rfl (R1) 15 rfl 48 (qC2 n0 n1 n2 n3 n4 n5 n6 n7 ad st lf a1 N1 c1 a2 N2 c2 a3 N3 c3 a4 N4 c4 a5 N5 c5 sq) (0, 0) (HL5.out.get (.head _)) (.slice a5 N5 c5) rfl _ Tryz.underlying46 rfl (by kernel_rfl) ?_))
 refine ((HC5 _ (HK5.out.kept HL5.out.below)).out).mono ?_
 rintro e w6 ⟨rfl, h⟩
 have HL6 := Lib.hid (show Lg w w6 [(R1, (qC2 n0 n1 n2 n3 n4 n5 n6 n7 ad st lf a1 N1 c1 a2 N2 c2 a3 N3 c3 a4 N4 c4 a5 N5 c5 sq), 48)] [] from HL5.out.kept h)
 clear h
 go_wp2_with fail
 go_ret
 exact ⟨rfl, HL6.out.below⟩
def ndOutV (x : Nd) (cd : Int) (a1 a2 a3 a4 a5 : Option Addr) (c1 c2 c3 c4 c5 : Nat) : Value :=
 .agg #[.int .i64 x.c.n.u, .int .i64 x.c.n.m, .int .i64 x.c.n.i, .int .i64 x.c.n.f, .int .i64 x.c.n.c, .int .i64 x.c.n.s, .int .i64 x.c.n.y, .bool x.c.n.a, .int .i64 x.c.ad, .int .i64 x.c.st, .int .i64 x.c.lf, .slice a1 x.c.tk.length c1, .slice a2 x.q.length c2, .slice a3 x.t.length c3, .slice a4 x.d.length c4, .slice a5 x.g.length c5, .int .i64 x.s, .int .i64 cd]
set_option maxRecDepth 100000 in
set_option maxHeartbeats 8000000 in
theorem eqNodeOut_same (x : Nd) (cd : Int) (a1 a2 a3 a4 a5 y1 y2 y3 y4 y5 : Option Addr) (c1 c2 c3 c4 c5 z1 z2 z3 z4 z5 : Nat) (w : World) (h : NdIn w a1 a2 a3 a4 a5 x) (h' : NdIn w y1 y2 y3 y4 y5 x) (hs : NdSmall x) :
  Calls Tryz.prog 12 #[ndOutV x cd a1 a2 a3 a4 a5 c1 c2 c3 c4 c5, ndOutV x cd y1 y2 y3 y4 y5 z1 z2 z3 z4 z5] w fun e w' => e = .returned (.bool true) ∧ Below w.heap.size w w' := by
 have HI := Lib.hid h
 have HJ := Lib.hid h'
 have HE := fun W h h' => Lib.hid (eqNode_same x a1 a2 a3 a4 a5 y1 y2 y3 y4 y5 c1 c2 c3 c4 c5 z1 z2 z3 z4 z5 W h h' hs)
 have hqq : (cd != cd) = false := by simp
 clear h h' hs
 obtain ⟨⟨⟨n0, n1, n2, n3, n4, n5, n6, n7⟩, ad, st, lf, tk⟩, q, t, d, g, sq⟩ := x
 unfold ndOutV
 unfold ndV at HE
 dsimp only at *
 generalize eN1 : tk.length = N1 at *
 generalize eN2 : q.length = N2 at *
 generalize eN3 : t.length = N3 at *
 generalize eN4 : d.length = N4 at *
 generalize eN5 : g.length = N5 at *
 have HEN := Lib.hid (And.intro eN1 (And.intro eN2 (And.intro eN3 (And.intro eN4 eN5))))
 clear eN1 eN2 eN3 eN4 eN5
 clear HEN
 go_enter Tryz.func12, Tryz.ntmps12
 go_wp2_with (first
  | (refine wpList_box_h rfl 50 (.tmp 0) rfl #[.int .i64 n0, .int .i64 n1, .int .i64 n2, .int .i64 n3, .int .i64 n4, .int .i64 n5, .int .i64 n6, .bool n7, .int .i64 ad, .int .i64 st, .int .i64 lf, .slice a1 N1 c1, .slice a2 N2 c2, .slice a3 N3 c3, .slice a4 N4 c4, .slice a5 N5 c5, .int .i64 sq, .int .i64 cd] rfl ?_; intro w1 R1 e1 g1 b1; have HL1 := Lib.hid (show Lg w w1 [(R1, (qC8 n0 n1 n2 n3 n4 n5 n6 n7 ad st lf a1 N1 c1 a2 N2 c2 a3 N3 c3 a4 N4 c4 a5 N5 c5 sq cd), 50)] [] from (Lg.first w).box e1 g1 b1); clear g1 b1 e1)
  | (refine wpList_box_h rfl 50 (.tmp 1) rfl #[.int .i64 n0, .int .i64 n1, .int .i64 n2, .int .i64 n3, .int .i64 n4, .int .i64 n5, .int .i64 n6, .bool n7, .int .i64 ad, .int .i64 st, .int .i64 lf, .slice y1 N1 z1, .slice y2 N2 z2, .slice y3 N3 z3, .slice y4 N4 z4, .slice y5 N5 z5, .int .i64 sq, .int .i64 cd] rfl ?_; intro w2 R2 e2 g2 b2; have qR2_R1 : R1 < R2 := Nat.lt_of_lt_of_eq (HL1.out.lt (.head _)) e2; have HL2 := Lib.hid (show Lg w w2 [(R2, (qC8 n0 n1 n2 n3 n4 n5 n6 n7 ad st lf y1 N1 z1 y2 N2 z2 y3 N3 z3 y4 N4 z4 y5 N5 z5 sq cd), 50), (R1, (qC8 n0 n1 n2 n3 n4 n5 n6 n7 ad st lf a1 N1 c1 a2 N2 c2 a3 N3 c3 a4 N4 c4 a5 N5 c5 sq cd), 50)] [] from HL1.out.box e2 g2 b2); clear g2 b2 e2)
  | (refine wpList_load_at rfl 48 (.tmp 5) rfl (R1) 0 rfl 50 (qC8 n0 n1 n2 n3 n4 n5 n6 n7 ad st lf a1 N1 c1 a2 N2 c2 a3 N3 c3 a4 N4 c4 a5 N5 c5 sq cd) (0, 0) (HL2.out.get qCm1) [.int .i64 n0, .int .i64 n1, .int .i64 n2, .int .i64 n3, .int .i64 n4, .int .i64 n5, .int .i64 n6, .bool n7, .int .i64 ad, .int .i64 st, .int .i64 lf, .slice a1 N1 c1, .slice a2 N2 c2, .slice a3 N3 c3, .slice a4 N4 c4, .slice a5 N5 c5, .int .i64 sq] rfl _ Tryz.underlying48 rfl (by kernel_rfl) ?_)
  | (refine wpList_load_at rfl 48 (.tmp 7) rfl (R2) 0 rfl 50 (qC8 n0 n1 n2 n3 n4 n5 n6 n7 ad st lf y1 N1 z1 y2 N2 z2 y3 N3 z3 y4 N4 z4 y5 N5 z5 sq cd) (0, 0) (HL2.out.get (.head _)) [.int .i64 n0, .int .i64 n1, .int .i64 n2, .int .i64 n3, .int .i64 n4, .int .i64 n5, .int .i64 n6, .bool n7, .int .i64 ad, .int .i64 st, .int .i64 lf, .slice y1 N1 z1, .slice y2 N2 z2, .slice y3 N3 z3, .slice y4 N4 z4, .slice y5 N5 z5, .int .i64 sq] rfl _ Tryz.underlying48 rfl (by kernel_rfl) ?_))
 refine ((HE _ (HI.out.kept HL2.out.below) (HJ.out.kept HL2.out.below)).out).mono ?_
 rintro e w3 ⟨rfl, h⟩
 have HL3 := Lib.hid (show Lg w w3 [(R2, (qC8 n0 n1 n2 n3 n4 n5 n6 n7 ad st lf y1 N1 z1 y2 N2 z2 y3 N3 z3 y4 N4 z4 y5 N5 z5 sq cd), 50), (R1, (qC8 n0 n1 n2 n3 n4 n5 n6 n7 ad st lf a1 N1 c1 a2 N2 c2 a3 N3 c3 a4 N4 c4 a5 N5 c5 sq cd), 50)] [] from HL2.out.kept h)
 clear h
 go_wp2_with (first
  | (refine wpList_load_one rfl 2 (.tmp 11) rfl (R1) 17 rfl 50 (qC8 n0 n1 n2 n3 n4 n5 n6 n7 ad st lf a1 N1 c1 a2 N2 c2 a3 N3 c3 a4 N4 c4 a5 N5 c5 sq cd) (0, 0) (HL3.out.get qCm1) (.int .i64 cd) rfl _ Tryz.underlying2 rfl (by kernel_rfl) ?_)
  | (refine wpList_load_one rfl 2 (.tmp 13) rfl (R2) 17 rfl 50 (qC8 n0 n1 n2 n3 n4 n5 n6 n7 ad st lf y1 N1 z1 y2 N2 z2 y3 N3 z3 y4 N4 z4 y5 N5 z5 sq cd) (0, 0) (HL3.out.get (.head _)) (.int .i64 cd) rfl _ Tryz.underlying2 rfl (by kernel_rfl) ?_))
 go_ret
 exact ⟨rfl, HL3.out.below⟩
set_option maxRecDepth 100000 in
set_option maxHeartbeats 8000000 in
theorem markNodeOut_1 {lo hi : Nat} (x : Nd) (cd : Int) (a1 a2 a3 a4 a5 : Option Addr) (c1 c2 c3 c4 c5 : Nat) (w : World) (k : NdNew lo hi w a1 a2 a3 a4 a5 x) (hhi : hi ≤ w.heap.size) (hs : NdSmall x) :
  Calls Tryz.prog 17 #[ndOutV x cd a1 a2 a3 a4 a5 c1 c2 c3 c4 c5, .int .i64 1] w fun e w' => e = .returned (.int .i64 ((endNd x : Nat) : Int)) ∧ NdNew lo hi w' a1 a2 a3 a4 a5 (markNd x) ∧ Out lo hi w w' := by
 have HM := fun W h hh => Lib.hid (markNode_1 (lo := lo) (hi := hi) x a1 a2 a3 a4 a5 c1 c2 c3 c4 c5 W h hh hs)
 have HK := Lib.hid k
 clear k hs
 generalize endNd x = E at *
 generalize markNd x = y at *
 obtain ⟨⟨⟨n0, n1, n2, n3, n4, n5, n6, n7⟩, ad, st, lf, tk⟩, q, t, d, g, sq⟩ := x
 unfold ndOutV
 unfold ndV at HM
 dsimp only at *
 generalize eN1 : tk.length = N1 at *
 generalize eN2 : q.length = N2 at *
 generalize eN3 : t.length = N3 at *
 generalize eN4 : d.length = N4 at *
 generalize eN5 : g.length = N5 at *
 have HEN := Lib.hid (And.intro eN1 (And.intro eN2 (And.intro eN3 (And.intro eN4 eN5))))
 clear eN1 eN2 eN3 eN4 eN5
 clear HEN
 go_enter Tryz.func17, Tryz.ntmps17
 go_wp2_with (first
  | (refine wpList_box_h rfl 50 (.tmp 0) rfl #[.int .i64 n0, .int .i64 n1, .int .i64 n2, .int .i64 n3, .int .i64 n4, .int .i64 n5, .int .i64 n6, .bool n7, .int .i64 ad, .int .i64 st, .int .i64 lf, .slice a1 N1 c1, .slice a2 N2 c2, .slice a3 N3 c3, .slice a4 N4 c4, .slice a5 N5 c5, .int .i64 sq, .int .i64 cd] rfl ?_; intro w1 R1 e1 g1 b1; have HL1 := Lib.hid (show Lg w w1 [(R1, (qC8 n0 n1 n2 n3 n4 n5 n6 n7 ad st lf a1 N1 c1 a2 N2 c2 a3 N3 c3 a4 N4 c4 a5 N5 c5 sq cd), 50)] [] from (Lg.first w).box e1 g1 b1); clear g1 b1 e1)
  | (refine wpList_load_at rfl 48 (.tmp 5) rfl (R1) 0 rfl 50 (qC8 n0 n1 n2 n3 n4 n5 n6 n7 ad st lf a1 N1 c1 a2 N2 c2 a3 N3 c3 a4 N4 c4 a5 N5 c5 sq cd) (0, 0) (HL1.out.get (.head _)) [.int .i64 n0, .int .i64 n1, .int .i64 n2, .int .i64 n3, .int .i64 n4, .int .i64 n5, .int .i64 n6, .bool n7, .int .i64 ad, .int .i64 st, .int .i64 lf, .slice a1 N1 c1, .slice a2 N2 c2, .slice a3 N3 c3, .slice a4 N4 c4, .slice a5 N5 c5, .int .i64 sq] rfl _ Tryz.underlying48 rfl (by kernel_rfl) ?_))
 refine (HM _ (HK.out.kept HL1.out.below) (Nat.le_trans hhi HL1.out.below.size)).out.mono ?_
 rintro e w2 ⟨rfl, hn, ho⟩
 go_wp2_with fail
 go_ret
 exact ⟨rfl, hn, (Out.of_below HL1.out.below).trans ho⟩
set_option maxRecDepth 100000 in
set_option maxHeartbeats 8000000 in
theorem heldNodeOut_1 {lo hi : Nat} (x : Nd) (cd : Int) (a1 a2 a3 a4 a5 : Option Addr) (c1 c2 c3 c4 c5 : Nat) (w : World) (k : NdNew lo hi w a1 a2 a3 a4 a5 (markNd x)) (hs : NdSmall x) :
  Calls Tryz.prog 18 #[ndOutV x cd a1 a2 a3 a4 a5 c1 c2 c3 c4 c5, .int .i64 1] w fun e w' => e = .returned (.int .i64 ((endNd x : Nat) : Int)) ∧ Below w.heap.size w w' := by
 have HM := fun W h => Lib.hid (heldNode_1 (lo := lo) (hi := hi) x a1 a2 a3 a4 a5 c1 c2 c3 c4 c5 W h hs)
 have HK := Lib.hid k
 clear k hs
 generalize endNd x = E at *
 generalize markNd x = y at *
 have hd : decide ((E : Int) < 0) = false := decide_eq_false (by omega)
 obtain ⟨⟨⟨n0, n1, n2, n3, n4, n5, n6, n7⟩, ad, st, lf, tk⟩, q, t, d, g, sq⟩ := x
 unfold ndOutV
 unfold ndV at HM
 dsimp only at *
 generalize eN1 : tk.length = N1 at *
 generalize eN2 : q.length = N2 at *
 generalize eN3 : t.length = N3 at *
 generalize eN4 : d.length = N4 at *
 generalize eN5 : g.length = N5 at *
 have HEN := Lib.hid (And.intro eN1 (And.intro eN2 (And.intro eN3 (And.intro eN4 eN5))))
 clear eN1 eN2 eN3 eN4 eN5
 clear HEN
 go_enter Tryz.func18, Tryz.ntmps18
 go_wp2_with (first
  | (refine wpList_box_h rfl 50 (.tmp 0) rfl #[.int .i64 n0, .int .i64 n1, .int .i64 n2, .int .i64 n3, .int .i64 n4, .int .i64 n5, .int .i64 n6, .bool n7, .int .i64 ad, .int .i64 st, .int .i64 lf, .slice a1 N1 c1, .slice a2 N2 c2, .slice a3 N3 c3, .slice a4 N4 c4, .slice a5 N5 c5, .int .i64 sq, .int .i64 cd] rfl ?_; intro w1 R1 e1 g1 b1; have HL1 := Lib.hid (show Lg w w1 [(R1, (qC8 n0 n1 n2 n3 n4 n5 n6 n7 ad st lf a1 N1 c1 a2 N2 c2 a3 N3 c3 a4 N4 c4 a5 N5 c5 sq cd), 50)] [] from (Lg.first w).box e1 g1 b1); clear g1 b1 e1)
  | (refine wpList_load_at rfl 48 (.tmp 5) rfl (R1) 0 rfl 50 (qC8 n0 n1 n2 n3 n4 n5 n6 n7 ad st lf a1 N1 c1 a2 N2 c2 a3 N3 c3 a4 N4 c4 a5 N5 c5 sq cd) (0, 0) (HL1.out.get (.head _)) [.int .i64 n0, .int .i64 n1, .int .i64 n2, .int .i64 n3, .int .i64 n4, .int .i64 n5, .int .i64 n6, .bool n7, .int .i64 ad, .int .i64 st, .int .i64 lf, .slice a1 N1 c1, .slice a2 N2 c2, .slice a3 N3 c3, .slice a4 N4 c4, .slice a5 N5 c5, .int .i64 sq] rfl _ Tryz.underlying48 rfl (by kernel_rfl) ?_))
 refine ((HM _ (HK.out.kept HL1.out.below)).out).mono ?_
 rintro e w2 ⟨rfl, h⟩
 have HL2 := Lib.hid (show Lg w w2 [(R1, (qC8 n0 n1 n2 n3 n4 n5 n6 n7 ad st lf a1 N1 c1 a2 N2 c2 a3 N3 c3 a4 N4 c4 a5 N5 c5 sq cd), 50)] [] from HL1.out.kept h)
 clear h
 go_wp2_with fail
 go_ret
 exact ⟨rfl, HL2.out.below⟩
end Go.Proofs.YtioldepgoodipaaGreat
namespace Go.Proofs.YtioldepgoodipaaGreat
open Go.RowKit
set_option linter.unusedVariables false

def bitL (l : List UInt8) (i : Nat) : Nat := (l[i / 8]?.getD 0).toNat / 2 ^ (i % 8) % 2
def numOf (f : Nat → Nat) (a : Nat) : Nat → Nat
 | 0 => 0
 | w + 1 => f a + 2 * numOf f (a + 1) w
theorem numOf_congr {f g : Nat → Nat} (w : Nat) : ∀ a, (∀ i, a ≤ i → i < a + w → f i = g i) → numOf f a w = numOf g a w := by
 induction w with
 | zero => intro a h; rfl
 | succ w ih =>
  intro a h
  show f a + 2 * numOf f (a + 1) w = g a + 2 * numOf g (a + 1) w
  rw [h a (Nat.le_refl _) (by omega), ih (a + 1) (fun i h1 h2 => h i (by omega) (by omega))]
theorem numOf_lt {f : Nat → Nat} (hf : ∀ i, f i < 2) (w : Nat) : ∀ a, numOf f a w < 2 ^ w := by
 induction w with
 | zero => intro a; simp [numOf]
 | succ w ih =>
  intro a
  show f a + 2 * numOf f (a + 1) w < _
  have := hf a
  have := ih (a + 1)
  rw [Nat.pow_succ]
  omega
theorem numOf_bits (w : Nat) : ∀ (a n : Nat), numOf (fun i => n / 2 ^ (i - a) % 2) a w = n % 2 ^ w := by
 induction w with
 | zero => intro a n; simp [numOf, Nat.mod_one]
 | succ w ih =>
  intro a n
  show n / 2 ^ (a - a) % 2 + 2 * numOf (fun i => n / 2 ^ (i - a) % 2) (a + 1) w = _
  have e : numOf (fun i => n / 2 ^ (i - a) % 2) (a + 1) w = numOf (fun i => n / 2 / 2 ^ (i - (a + 1)) % 2) (a + 1) w := by
   refine numOf_congr _ _ fun i h1 h2 => ?_
   show n / 2 ^ (i - a) % 2 = _
   rw [show i - a = (i - (a + 1)) + 1 by omega, Nat.pow_succ, Nat.mul_comm, Nat.div_div_eq_div_mul]
  rw [e, ih, Nat.sub_self, Nat.pow_zero, Nat.div_one, Nat.pow_succ, Nat.mul_comm (2 ^ w) 2, Nat.mod_mul]
theorem numOf_bit {f : Nat → Nat} (hf : ∀ i, f i < 2) (w : Nat) : ∀ (a i : Nat), i < w → numOf f a w / 2 ^ i % 2 = f (a + i) := by
 induction w with
 | zero => intro a i h; omega
 | succ w ih =>
  intro a i h
  show (f a + 2 * numOf f (a + 1) w) / 2 ^ i % 2 = _
  have h0 := hf a
  rcases i with _ | i
  ·show (f a + 2 * numOf f (a + 1) w) / 2 ^ 0 % 2 = f a
   rw [Nat.pow_zero, Nat.div_one]; omega
  ·rw [Nat.pow_succ, Nat.mul_comm (2 ^ i) 2, ← Nat.div_div_eq_div_mul, show (f a + 2 * numOf f (a + 1) w) / 2 = numOf f (a + 1) w by omega, ih (a + 1) i (by omega)]
   congr 1; omega
theorem numOf_set (f g : Nat → Nat) (w : Nat) : ∀ (a i : Nat), i < w → (∀ j, j ≠ a + i → g j = f j) → numOf g a w + f (a + i) * 2 ^ i = numOf f a w + g (a + i) * 2 ^ i := by
 induction w with
 | zero => intro a i h; omega
 | succ w ih =>
  intro a i h hg
  show g a + 2 * numOf g (a + 1) w + _ = f a + 2 * numOf f (a + 1) w + _
  rcases i with _ | i
  ·rw [numOf_congr w (a + 1) (f := g) (g := f) (fun j h1 h2 => hg j (by omega))]
   simp
   omega
  ·have e := ih (a + 1) i (by omega) (fun j hj => hg j (by omega))
   rw [hg a (by omega), Nat.pow_succ, show a + (i + 1) = a + 1 + i by omega, ← Nat.mul_assoc, ← Nat.mul_assoc]
   omega

theorem bitL_lt (l : List UInt8) (i : Nat) : bitL l i < 2 := by unfold bitL; omega
theorem pow8 : ∀ e, e < 8 → 2 ^ e = 1 ∨ 2 ^ e = 2 ∨ 2 ^ e = 4 ∨ 2 ^ e = 8 ∨ 2 ^ e = 16 ∨ 2 ^ e = 32 ∨ 2 ^ e = 64 ∨ 2 ^ e = 128 := by
 intro e h
 obtain rfl | rfl | rfl | rfl | rfl | rfl | rfl | rfl : e = 0 ∨ e = 1 ∨ e = 2 ∨ e = 3 ∨ e = 4 ∨ e = 5 ∨ e = 6 ∨ e = 7 := by omega
 all_goals simp
theorem byte_lt (b : UInt8) : b.toNat < 256 := b.toNat_lt
theorem numOf_byte (l : List UInt8) (k : Nat) : numOf (bitL l) (8 * k) 8 = (l[k]?.getD 0).toNat := by
 have e : numOf (bitL l) (8 * k) 8 = numOf (fun i => (l[k]?.getD 0).toNat / 2 ^ (i - 8 * k) % 2) (8 * k) 8 := by
  refine numOf_congr _ _ fun i h1 h2 => ?_
  unfold bitL
  rw [show i / 8 = k by omega, show i % 8 = i - 8 * k by omega]
 rw [e, numOf_bits]
 exact Nat.mod_eq_of_lt (byte_lt _)

def putB (f : Nat → Nat) (len : Nat) : List UInt8 := (List.range len).map fun k => UInt8.ofNat (numOf f (8 * k) 8)
theorem putB_length (f : Nat → Nat) (len : Nat) : (putB f len).length = len := by simp [putB]
theorem putB_get {f : Nat → Nat} {len k : Nat} (h : k < len) : (putB f len)[k]? = some (UInt8.ofNat (numOf f (8 * k) 8)) := by
 unfold putB
 rw [List.getElem?_map, List.getElem?_range h]
 rfl
theorem ofNat_toNat {n : Nat} (h : n < 256) : (UInt8.ofNat n).toNat = n := by
 simp [UInt8.toNat_ofNat']
 omega
theorem putB_old (l : List UInt8) : putB (bitL l) l.length = l := by
 apply List.ext_getElem?
 intro k
 rcases Nat.lt_or_ge k l.length with h | h
 ·rw [putB_get h, numOf_byte, List.getElem?_eq_getElem h]
  simp
 ·rw [List.getElem?_eq_none (by rw [putB_length]; exact h), List.getElem?_eq_none h]
theorem putB_congr {f g : Nat → Nat} {len : Nat} (h : ∀ i, i < 8 * len → f i = g i) : putB f len = putB g len := by
 unfold putB
 apply List.map_congr_left
 intro k hk
 have hk' : k < len := List.mem_range.1 hk
 rw [numOf_congr 8 (8 * k) (fun i h1 h2 => h i (by omega))]
def putBit (l : List UInt8) (a w n i : Nat) : Nat := if a ≤ i ∧ i < a + w then n / 2 ^ (i - a) % 2 else bitL l i
theorem putBit_lt (l : List UInt8) (a w n i : Nat) : putBit l a w n i < 2 := by
 unfold putBit
 split
 ·omega
 ·exact bitL_lt _ _
theorem putBit_zero (l : List UInt8) (a n : Nat) : putBit l a 0 n = bitL l := by
 funext i
 unfold putBit
 rw [if_neg (by omega)]
theorem putBit_same (l : List UInt8) {a j n i : Nat} (h : i ≠ a + j) : putBit l a (j + 1) n i = putBit l a j n i := by
 unfold putBit
 by_cases h1 : a ≤ i ∧ i < a + j
 ·rw [if_pos h1, if_pos (by omega)]
 ·rw [if_neg h1, if_neg (by omega)]
theorem putBit_at (l : List UInt8) (a j n : Nat) : putBit l a (j + 1) n (a + j) = n / 2 ^ j % 2 := by
 unfold putBit
 rw [if_pos (by omega), show a + j - a = j by omega]
def turnB (b p n : Nat) : Nat := b - b / p % 2 * p + n % 2 * p
theorem putB_step_at (l : List UInt8) {a j n k : Nat} (hkk : (a + j) / 8 = k) :
  numOf (putBit l a (j + 1) n) (8 * k) 8 = turnB (numOf (putBit l a j n) (8 * k) 8) (2 ^ ((a + j) % 8)) (n / 2 ^ j) := by
 obtain ⟨e, he⟩ : ∃ e, (a + j) % 8 = e := ⟨_, rfl⟩
 have he8 : e < 8 := by omega
 have e8 : 8 * k + e = a + j := by omega
 have h0 := numOf_set (putBit l a j n) (putBit l a (j + 1) n) 8 (8 * k) e he8 (fun i hi => putBit_same l (by omega))
 rw [e8, putBit_at] at h0
 have h2 := numOf_bit (putBit_lt l a j n) 8 (8 * k) e he8
 rw [e8] at h2
 rw [he]
 generalize numOf (putBit l a (j + 1) n) (8 * k) 8 = X at *
 generalize numOf (putBit l a j n) (8 * k) 8 = Y at *
 unfold turnB
 rw [h2]
 have h3 : putBit l a j n (a + j) * 2 ^ e ≤ Y := by
  rw [← h2]
  exact Nat.le_trans (Nat.mul_le_mul_right _ (Nat.mod_le _ _)) (Nat.div_mul_le_self _ _)
 generalize putBit l a j n (a + j) * 2 ^ e = u at *
 generalize n / 2 ^ j % 2 * 2 ^ e = v at *
 omega
theorem putB_step (l : List UInt8) {a j n : Nat} (h : a + j < 8 * l.length) :
  putB (putBit l a (j + 1) n) l.length = (putB (putBit l a j n) l.length).set ((a + j) / 8) (UInt8.ofNat (turnB (((putB (putBit l a j n) l.length)[(a + j) / 8]?.getD 0).toNat) (2 ^ ((a + j) % 8)) (n / 2 ^ j))) := by
 have hq : (a + j) / 8 < l.length := by omega
 rw [putB_get hq]
 show _ = (putB (putBit l a j n) l.length).set ((a + j) / 8) (UInt8.ofNat (turnB ((UInt8.ofNat (numOf (putBit l a j n) (8 * ((a + j) / 8)) 8)).toNat) (2 ^ ((a + j) % 8)) (n / 2 ^ j)))
 rw [ofNat_toNat (Nat.lt_of_lt_of_le (numOf_lt (putBit_lt l a j n) 8 _) (by decide)), ← putB_step_at l rfl]
 apply List.ext_getElem?
 intro k
 rcases Nat.lt_or_ge k l.length with hk | hk
 ·rw [putB_get hk, List.getElem?_set, putB_length]
  by_cases hkk : (a + j) / 8 = k
  ·rw [if_pos hkk, if_pos hq, hkk]
  ·rw [if_neg hkk, putB_get hk]
   congr 2
   exact numOf_congr 8 _ fun i h1 h2 => putBit_same l (by omega)
 ·rw [List.getElem?_eq_none (by rw [putB_length]; exact hk), List.getElem?_eq_none (by rw [List.length_set, putB_length]; exact hk)]
theorem turnB_lt {b p n : Nat} (hb : b < 256) (hp : p = 1 ∨ p = 2 ∨ p = 4 ∨ p = 8 ∨ p = 16 ∨ p = 32 ∨ p = 64 ∨ p = 128) : turnB b p n < 256 := by
 unfold turnB
 rcases hp with rfl | rfl | rfl | rfl | rfl | rfl | rfl | rfl <;> omega
/-! What a field's numbers mean. -/
def fieldB (a w : Int) : Bool := inB 0 1800 a && inB 1 32 w
def hasB (s : ByteArray) (a w : Int) : Bool := fieldB a w && decide (a + w ≤ 8 * (s.size : Int))
def powI (w : Int) : Int := ((2 ^ w.toNat : Nat) : Int)
def getI (s : ByteArray) (a w : Int) : Int := if 8000 < s.size then 0 else if hasB s a w then ((numOf (bitL s.data.toList) a.toNat w.toNat : Nat) : Int) else 0
def putI (s : ByteArray) (a w n : Int) : List UInt8 :=
 if 8000 < s.size then [] else if hasB s a w && inB 0 (powI w - 1) n then putB (putBit s.data.toList a.toNat w.toNat n.toNat) s.size else s.data.toList
def lowI (a w : Int) (g : Bool) : Int := if fieldB a w && g then -(powI (w - 1)) else 0
def topI (w : Int) (g : Bool) : Int := if g then powI (w - 1) - 1 else powI w - 1
def highI (a w : Int) (g : Bool) : Int := if fieldB a w then (if w < 4 then topI w g else topI w g - 2) else 0
def valB (a w : Int) (g : Bool) (k n : Int) : Bool :=
 fieldB a w && (if k = 1 then decide (lowI a w g ≤ n) && decide (n ≤ highI a w g) else inB 2 3 k && (decide (n = 0) && decide (4 ≤ w)))
def meanI (w : Int) (g : Bool) (n : Int) : Int × Int := if 4 ≤ w ∧ n = topI w g then (2, 0) else if 4 ≤ w ∧ n = topI w g - 1 then (3, 0) else (1, n)
def signI (w : Int) (g : Bool) (n : Int) : Int := if topI w g < n then n - powI w else n
def fgetI (s : ByteArray) (a w : Int) (g : Bool) : Int × Int :=
 if 8000 < s.size then (0, 0) else if hasB s a w then meanI w g (signI w g (numOf (bitL s.data.toList) a.toNat w.toNat : Nat)) else (0, 0)
def tellI (w : Int) (g : Bool) (k n : Int) : Int := if k = 2 then topI w g else if k = 3 then topI w g - 1 else n
def bitsI (w n : Int) : Int := if n < 0 then n + powI w else n
def fputI (s : ByteArray) (a w : Int) (g : Bool) (k n : Int) : List UInt8 :=
 if 8000 < s.size then [] else if valB a w g k n && hasB s a w then putB (putBit s.data.toList a.toNat w.toNat (bitsI w (tellI w g k n)).toNat) s.size else s.data.toList

theorem pow_le32 {k : Nat} (h : k ≤ 32) : 2 ^ k ≤ 4294967296 := Nat.pow_le_pow_right (by decide) h
theorem powI_pos (w : Int) : 1 ≤ powI w := by
 unfold powI
 have := Nat.pow_pos (n := w.toNat) (show 0 < 2 by decide)
 omega
theorem powI_le {w : Int} (h : w ≤ 32) : powI w ≤ 4294967296 := by
 unfold powI
 have := pow_le32 (k := w.toNat) (by omega)
 omega
theorem powI_step {w : Int} (h : 1 ≤ w) : powI w = 2 * powI (w - 1) := by
 unfold powI
 rw [show w.toNat = (w - 1).toNat + 1 by omega, Nat.pow_succ]
 omega
theorem powI_four {w : Int} (h : 4 ≤ w) : 8 ≤ powI (w - 1) := by
 unfold powI
 have : 2 ^ 3 ≤ 2 ^ (w - 1).toNat := Nat.pow_le_pow_right (by decide) (by omega)
 omega
theorem fieldB_of {a w : Int} (h : fieldB a w = true) : 0 ≤ a ∧ a ≤ 1800 ∧ 1 ≤ w ∧ w ≤ 32 := by
 unfold fieldB at h
 simp only [Bool.and_eq_true] at h
 have h1 := inB_of h.1
 have h2 := inB_of h.2
 omega
theorem hasB_of {s : ByteArray} {a w : Int} (h : hasB s a w = true) : fieldB a w = true ∧ a + w ≤ 8 * (s.size : Int) := by
 unfold hasB at h
 simpa using h
end Go.Proofs.YtioldepgoodipaaGreat
namespace Go.Proofs.YtioldepgoodipaaGreat
open Go.RowKit
set_option linter.unusedVariables false

theorem u8_join (e : Nat) {x c p : Int} (hp : p = ((2 ^ e : Nat) : Int)) (h0 : 0 ≤ x) (h1 : x < p) (h2 : 0 ≤ c) (h3 : x + c * p ≤ 255) : bits .or .u8 x (c * p) = x + c * p := by
 have hc : bits .or .u8 x (c * p) = bits .or .u8 (c * p) x := by simp only [bits, BitVec.or_comm]
 have hpp : (0 : Int) ≤ p := by omega
 have hcp : 0 ≤ c * p := Int.mul_nonneg h2 hpp
 rw [hc, bits_join .u8 8 (by decide) wraps_u8 e (c * p) x hcp (by rw [hp]; simp) (by omega) h0 (by rw [hp] at h1; simpa using h1) (by omega)]
 omega
theorem i64_mask (n : Int) (e : Nat) (he : e ≤ 62) (h0 : -9223372036854775808 ≤ n) (h1 : n ≤ 9223372036854775807) : bits .and .i64 n ((2 : Int) ^ e - 1) = n % 2 ^ e := by
 have hpos : 0 < 2 ^ e := Nat.two_pow_pos e
 have hle : 2 ^ e ≤ 2 ^ 62 := Nat.pow_le_pow_right (by decide) he
 have hc : ((2 : Int) ^ e - 1) = ((2 ^ e - 1 : Nat) : Int) := by
  rw [Int.natCast_sub hpos]; simp
 have hm : (BitVec.ofInt 64 ((2 ^ e - 1 : Nat) : Int)).toNat = 2 ^ e - 1 := by
  rw [BitVec.ofInt_natCast, BitVec.toNat_ofNat]
  exact Nat.mod_eq_of_lt (by omega)
 have key : (BitVec.ofInt 64 n &&& BitVec.ofInt 64 ((2 ^ e - 1 : Nat) : Int)).toNat = (n % ((2 ^ 64 : Nat) : Int)).toNat % 2 ^ e := by
  rw [BitVec.toNat_and, BitVec.toNat_ofInt, hm, Nat.and_two_pow_sub_one_eq_mod]
 rw [hc]
 show IntKind.i64.wrap ((BitVec.ofInt 64 n &&& BitVec.ofInt 64 ((2 ^ e - 1 : Nat) : Int)).toNat : Nat) = n % 2 ^ e
 rw [key]
 have hd : (2 ^ e) ∣ (2 ^ 64) := Nat.pow_dvd_pow 2 (by omega)
 have hlt : (n % ((2 ^ 64 : Nat) : Int)).toNat % 2 ^ e < 2 ^ e := Nat.mod_lt _ hpos
 rw [IntWalk.i64_in _ (by omega)]
 have h64 : 0 ≤ n % ((2 ^ 64 : Nat) : Int) := Int.emod_nonneg _ (by decide)
 rw [Int.natCast_emod, Int.toNat_of_nonneg h64]
 rw [Int.emod_emod_of_dvd n (by exact_mod_cast hd)]
 simp
theorem mask_bits {n w : Int} (hw : 1 ≤ w) (h0 : -(powI (w - 1)) ≤ n) (h1 : n ≤ powI w - 1) : n % powI w = bitsI w n := by
 have h2 := powI_step hw
 have h3 := powI_pos (w - 1)
 unfold bitsI
 split
 ·rw [← Int.add_emod_right]
  exact Int.emod_eq_of_lt (by omega) (by omega)
 ·exact Int.emod_eq_of_lt (by omega) (by omega)
theorem shl_pow (w : Int) (h0 : 0 ≤ w) (h1 : w ≤ 62) : IntKind.i64.wrap (1 * 2 ^ min w.toNat 64) = powI w := by
 have hm : min w.toNat 64 = w.toNat := by omega
 have h2 : 2 ^ w.toNat ≤ 2 ^ 62 := Nat.pow_le_pow_right (by decide) (by omega)
 rw [hm, Int.one_mul]
 have e : (2 : Int) ^ w.toNat = ((2 ^ w.toNat : Nat) : Int) := by simp
 rw [e]
 unfold powI
 generalize 2 ^ w.toNat = p at *
 exact IntWalk.i64_in _ (by omega)
end Go.Proofs.YtioldepgoodipaaGreat
namespace Go.Proofs.YtioldepgoodipaaGreat
open Go.RowKit
set_option linter.unusedVariables false
theorem tooLong_any (s : ByteArray) (w : World) (hs : s.size ≤ maxLen) :
  Calls Tryz.prog 169 #[.string s] w fun e w' => e = .returned (.bool (decide (8000 < (s.size : Int)))) ∧ w = w' := by
 unfold maxLen at hs
 go_enter Tryz.func169, Tryz.ntmps169
 go_wp2
 go_ret
 exact ⟨rfl, rfl⟩

end Go.Proofs.YtioldepgoodipaaGreat
namespace Go.Proofs.YtioldepgoodipaaGreat
open Go.RowKit
set_option linter.unusedVariables false

def fdV (a w : Int) (g : Bool) : Value := .agg #[.int .i64 a, .int .i64 w, .bool g]
theorem fieldB_split (a w : Int) : fieldB a w = (inB 0 1800 a && (decide (1 ≤ w) && decide (w ≤ 32))) := rfl

theorem specFieldRight_any (a w : Int) (g : Bool) (W : World) :
  Calls Tryz.prog 157 #[fdV a w g] W fun e W' => e = .returned (.bool (fieldB a w)) ∧ Below W.heap.size W W' := by
 have hb : Below W.heap.size W (W.alloc (.cells #[.int .i64 a, .int .i64 w, .bool g] 147)) := (Below.refl _ _).alloc (Nat.le_refl _) _
 unfold fdV
 rcases Bool.eq_false_or_eq_true (inB 0 1800 a) with h1 | h1
 all_goals
  go_enter Tryz.func157, Tryz.ntmps157
  go_wp2_with (go_at_call 82; refine (l02Is_any _ _ _ _).mono ?_; rintro e w' ⟨rfl, rfl⟩)
  go_ret
  exact ⟨by simp [fieldB, h1], hb⟩
theorem implFieldRight_any (a w : Int) (g : Bool) (W : World) :
  Calls Tryz.prog 206 #[fdV a w g] W fun e W' => e = .returned (.bool (fieldB a w)) ∧ Below W.heap.size W W' := by
 have hb : Below W.heap.size W (W.alloc (.cells #[.int .i64 a, .int .i64 w, .bool g] 147)) := (Below.refl _ _).alloc (Nat.le_refl _) _
 unfold fdV
 rcases Bool.eq_false_or_eq_true (inB 0 1800 a) with h1 | h1
 ·rcases Bool.eq_false_or_eq_true (decide (1 ≤ w)) with h2 | h2
  all_goals
   go_enter Tryz.func206, Tryz.ntmps206
   go_wp2_with (go_at_call 131; refine (from0_any _ _ _).mono ?_; rintro e w' ⟨rfl, rfl⟩)
   go_ret
   exact ⟨by rw [fieldB_split]; simp [h1, h2], hb⟩
 ·go_enter Tryz.func206, Tryz.ntmps206
  go_wp2_with (go_at_call 131; refine (from0_any _ _ _).mono ?_; rintro e w' ⟨rfl, rfl⟩)
  go_ret
  exact ⟨by rw [fieldB_split]; simp [h1], hb⟩
theorem hasB_off {s : ByteArray} {a w : Int} (h : fieldB a w = false) : hasB s a w = false := by simp [hasB, h]
theorem implHasBits_any (s : ByteArray) (a w : Int) (W : World) (hs : s.size ≤ 1000000) :
  Calls Tryz.prog 215 #[.string s, .int .i64 a, .int .i64 w] W fun e W' => e = .returned (.bool (hasB s a w)) ∧ Below W.heap.size W W' := by
 have HF := fun W => implFieldRight_any a w false W
 rcases Bool.eq_false_or_eq_true (fieldB a w) with h1 | h1
 ·have hf := fieldB_of h1
  go_enter Tryz.func215, Tryz.ntmps215
  go_wp2_with (go_at_call 206; refine (HF _).mono ?_; rintro e w' ⟨rfl, hb⟩)
  go_ret
  exact ⟨by simp [hasB, h1], hb⟩
 ·go_enter Tryz.func215, Tryz.ntmps215
  go_wp2_with (go_at_call 206; refine (HF _).mono ?_; rintro e w' ⟨rfl, hb⟩)
  go_ret
  exact ⟨by rw [hasB_off h1]; rfl, hb⟩
theorem l07Pow_any (k : Int) (W : World) (h0 : 0 ≤ k) (h1 : k ≤ 32) :
  Calls Tryz.prog 161 #[.int .i64 k] W fun e W' => e = .returned (.int .i64 (powI k)) ∧ W = W' := by
 obtain ⟨m, rfl⟩ := Int.eq_ofNat_of_zero_le h0
 have hm : m ≤ 32 := by omega
 clear h0 h1
 go_enter Tryz.func161, Tryz.ntmps161
 go_wp2_with fail
 go_loopw [0, 3] (fun i n wr => ∃ j p : Nat, i = .int .i64 (j : Int) ∧ n = .int .i64 (p : Int) ∧ j ≤ m ∧ p * 2 ^ j = 2 ^ m ∧ p ≤ 4294967296 ∧ W = wr) (fun i _ _ => (intOf i).toNat)
 case atStart => exact ⟨m, 1, rfl, rfl, Nat.le_refl _, by simp, by decide, rfl⟩
 case round =>
  obtain ⟨j, p, rfl, rfl, hj, hp, hp2, rfl⟩ := hrel
  rcases j with _ | j
  ·have e : powI (m : Int) = (p : Int) := by
    unfold powI
    rw [Int.toNat_natCast, ← hp]
    simp
   go_wp2
   go_ret
   exact ⟨by rw [e]; rfl, rfl⟩
  ·have hd : (0 : Int) < ((j + 1 : Nat) : Int) := by omega
   go_wp2
   go_roundw
   case rel =>
    refine ⟨j, 2 * p, by go_num, by go_num, by omega, ?_, ?_, by first | rfl | trivial⟩
    ·rw [← hp, Nat.pow_succ, Nat.mul_comm 2 p, Nat.mul_assoc, Nat.mul_comm 2]
    ·have h2 : 2 * p * 2 ^ j = 2 ^ m := by rw [← hp, Nat.pow_succ, Nat.mul_comm 2 p, Nat.mul_assoc, Nat.mul_comm 2]
     have h3 := pow_le32 hm
     have h4 : 2 * p ≤ 2 * p * 2 ^ j := Nat.le_mul_of_pos_right _ (Nat.two_pow_pos j)
     omega
   case measure => first | (simp [intOf]; omega) | simp [intOf]
end Go.Proofs.YtioldepgoodipaaGreat
namespace Go.Proofs.YtioldepgoodipaaGreat
open Go.RowKit
set_option linter.unusedVariables false

theorem fdCells {u : World} {R : Nat} {a w : Int} {g : Bool} {T : TypeId} (h : u.heap[R]? = some (.cells #[.int .i64 a, .int .i64 w, .bool g] T (0, 0))) :
  u.cell? ⟨R, 0, none⟩ = some (.int .i64 a) ∧ u.cell? ⟨R, 1, none⟩ = some (.int .i64 w) ∧ u.cell? ⟨R, 2, none⟩ = some (.bool g) :=
 ⟨(cell_of_row u R 0 _ _ (0, 0) h).trans rfl, (cell_of_row u R 1 _ _ (0, 0) h).trans rfl, (cell_of_row u R 2 _ _ (0, 0) h).trans rfl⟩
theorem vlCells {u : World} {R : Nat} {k n : Int} {T : TypeId} (h : u.heap[R]? = some (.cells #[.int .i64 k, .int .i64 n] T (0, 0))) :
  u.cell? ⟨R, 0, none⟩ = some (.int .i64 k) ∧ u.cell? ⟨R, 1, none⟩ = some (.int .i64 n) :=
 ⟨(cell_of_row u R 0 _ _ (0, 0) h).trans rfl, (cell_of_row u R 1 _ _ (0, 0) h).trans rfl⟩
theorem shl_pow1 (w : Int) (h0 : 0 ≤ w) (h1 : w ≤ 62) : IntKind.i64.wrap (2 ^ min w.toNat 64) = powI w := by
 have := shl_pow w h0 h1
 rwa [Int.one_mul] at this
theorem wrap64_i64 (n : Int) : IntKind.i64.wrap n = wrap64 n := by
 rw [IntKind.wrap_i64]
 unfold wrap64
 first | rfl | (split <;> omega) | omega
theorem pow64 {w : Int} (h0 : 0 ≤ w) (h1 : w ≤ 62) : wrap64 (2 ^ w.toNat) = powI w := by
 have := shl_pow1 w h0 h1
 have hm : min w.toNat 64 = w.toNat := by omega
 rw [hm] at this
 rw [← this]
 exact (wrap64_i64 _).symm
theorem pow64_less {w : Int} (h0 : 1 ≤ w) (h1 : w ≤ 62) : wrap64 (2 ^ (w.toNat - 1)) = powI (w - 1) := by
 have := pow64 (w := w - 1) (by omega) (by omega)
 rwa [show (w - 1).toNat = w.toNat - 1 by omega] at this
theorem lowI_off {a w : Int} {g : Bool} (h : fieldB a w = false) : lowI a w g = 0 := by simp [lowI, h]
theorem lowI_plain (a w : Int) : lowI a w false = 0 := by simp [lowI]
theorem lowI_on {a w : Int} (h : fieldB a w = true) : lowI a w true = -(powI (w - 1)) := by simp [lowI, h]
theorem highI_off {a w : Int} {g : Bool} (h : fieldB a w = false) : highI a w g = 0 := by simp [highI, h]
theorem highI_on {a w : Int} {g : Bool} (h : fieldB a w = true) : highI a w g = if w < 4 then topI w g else topI w g - 2 := by simp [highI, h]
theorem topI_in {w : Int} (g : Bool) (h0 : 1 ≤ w) (h1 : w ≤ 32) : 0 ≤ topI w g ∧ topI w g ≤ 4294967295 := by
 have h2 := powI_pos w
 have h3 := powI_le h1
 have h4 := powI_pos (w - 1)
 have h5 := powI_le (w := w - 1) (by omega)
 unfold topI
 split <;> omega
theorem lowI_in {a w : Int} (g : Bool) (h : fieldB a w = true) : -4294967296 ≤ lowI a w g ∧ lowI a w g ≤ 0 := by
 obtain ⟨_, _, h0, h1⟩ := fieldB_of h
 have h4 := powI_pos (w - 1)
 have h5 := powI_le (w := w - 1) (by omega)
 cases g
 ·rw [lowI_plain]; omega
 ·rw [lowI_on h]; omega
theorem mostI {a w : Int} (g : Bool) (h : fieldB a w = true) : lowI a w g + (powI w - 1) = topI w g := by
 obtain ⟨_, _, h0, h1⟩ := fieldB_of h
 have h4 := powI_step h0
 cases g
 ·rw [lowI_plain]; simp [topI]
 ·rw [lowI_on h]; simp [topI]; omega

set_option maxRecDepth 100000 in
set_option maxHeartbeats 1000000 in
theorem implLowOf_any (a w : Int) (g : Bool) (W : World) :
  Calls Tryz.prog 207 #[fdV a w g] W fun e W' => e = .returned (.int .i64 (lowI a w g)) ∧ Below W.heap.size W W' := by
 unfold fdV
 have HA := Lib.hid (heap_alloc_new W (.cells #[.int .i64 a, .int .i64 w, .bool g] 147))
 have HB := Lib.hid (show Below W.heap.size W (W.alloc (.cells #[.int .i64 a, .int .i64 w, .bool g] 147)) from (Below.refl _ _).alloc (Nat.le_refl _) _)
 rcases Bool.eq_false_or_eq_true (fieldB a w) with h1 | h1
 ·obtain ⟨_, _, h2, h3⟩ := fieldB_of h1
  have hp1 := powI_pos (w - 1)
  have hp2 := powI_le (w := w - 1) (by omega)
  have hp3 := pow64_less h2 (by omega)
  have hp4 : wrap64 (-powI (w - 1)) = -powI (w - 1) := IntWalk.wrap64_in _ (by omega)
  cases g
  ·go_enter Tryz.func207, Tryz.ntmps207
   go_wp2_with (go_at_call 206; refine (implFieldRight_any _ _ _ _).mono ?_; rintro e w1 ⟨rfl, hb1⟩; obtain ⟨y0, y1, y2⟩ := fdCells ((hb1.block W.heap.size (by simp)).trans HA.out))
   go_ret
   exact ⟨by rw [lowI_plain]; rfl, HB.out.trans (hb1.mono HB.out.size)⟩
  ·have HO := Lib.hid (lowI_on h1)
   go_enter Tryz.func207, Tryz.ntmps207
   go_wp2_with (go_at_call 206; refine (implFieldRight_any _ _ _ _).mono ?_; rintro e w1 ⟨rfl, hb1⟩; obtain ⟨y0, y1, y2⟩ := fdCells ((hb1.block W.heap.size (by simp)).trans HA.out))
   go_ret
   exact ⟨by rw [HO.out]; rfl, HB.out.trans (hb1.mono HB.out.size)⟩
 ·have HO := Lib.hid (lowI_off (g := g) h1)
  go_enter Tryz.func207, Tryz.ntmps207
  go_wp2_with (go_at_call 206; refine (implFieldRight_any _ _ _ _).mono ?_; rintro e w1 ⟨rfl, hb1⟩; obtain ⟨y0, y1, y2⟩ := fdCells ((hb1.block W.heap.size (by simp)).trans HA.out))
  go_ret
  exact ⟨by rw [HO.out]; rfl, HB.out.trans (hb1.mono HB.out.size)⟩

set_option maxRecDepth 100000 in
set_option maxHeartbeats 1000000 in
theorem mostOf_any (a w : Int) (g : Bool) (W : World) (hf : fieldB a w = true) :
  Calls Tryz.prog 214 #[fdV a w g] W fun e W' => e = .returned (.int .i64 (topI w g)) ∧ Below W.heap.size W W' := by
 unfold fdV
 have HA := Lib.hid (heap_alloc_new W (.cells #[.int .i64 a, .int .i64 w, .bool g] 147))
 have HB := Lib.hid (show Below W.heap.size W (W.alloc (.cells #[.int .i64 a, .int .i64 w, .bool g] 147)) from (Below.refl _ _).alloc (Nat.le_refl _) _)
 obtain ⟨_, _, h2, h3⟩ := fieldB_of hf
 have hp1 := powI_pos w
 have hp2 := powI_le h3
 have hp3 := pow64 (w := w) (by omega) (by omega)
 have HO := Lib.hid (mostI g hf)
 have hl := lowI_in g hf
 have HL := fun W => Lib.hid (implLowOf_any a w g W)
 generalize lowI a w g = L at *
 go_enter Tryz.func214, Tryz.ntmps214
 go_wp2_with fail
 obtain ⟨y0, y1, y2⟩ := fdCells HA.out
 go_region_with (go_at_call 207; refine (HL _).out.mono ?_; rintro e w1 ⟨rfl, hb1⟩; obtain ⟨z0, z1, z2⟩ := fdCells ((hb1.block W.heap.size (by simp)).trans HA.out))
 all_goals (try go_wp2)
 all_goals go_ret
 all_goals refine ⟨?_, HB.out.drew.trans (hb1.mono HB.out.size)⟩
 all_goals
  show Ending.returned (.int .i64 (IntKind.i64.wrap (L + IntKind.i64.wrap (IntKind.i64.wrap (2 ^ w.toNat) - 1)))) = _
  rw [show IntKind.i64.wrap (2 ^ w.toNat) = powI w from (wrap64_i64 _).trans hp3, IntWalk.i64_in (powI w - 1) (by omega), IntWalk.i64_in (L + (powI w - 1)) (by omega), HO.out]
set_option maxRecDepth 100000 in
set_option maxHeartbeats 1000000 in
theorem implHighOf_any (a w : Int) (g : Bool) (W : World) :
  Calls Tryz.prog 208 #[fdV a w g] W fun e W' => e = .returned (.int .i64 (highI a w g)) ∧ Below W.heap.size W W' := by
 unfold fdV
 have HA := Lib.hid (heap_alloc_new W (.cells #[.int .i64 a, .int .i64 w, .bool g] 147))
 have HB := Lib.hid (show Below W.heap.size W (W.alloc (.cells #[.int .i64 a, .int .i64 w, .bool g] 147)) from (Below.refl _ _).alloc (Nat.le_refl _) _)
 rcases Bool.eq_false_or_eq_true (fieldB a w) with h1 | h1
 ·obtain ⟨_, _, h2, h3⟩ := fieldB_of h1
  have ht := topI_in g h2 h3
  have HM := fun W => Lib.hid (mostOf_any a w g W h1)
  have HO := highI_on (g := g) h1
  generalize topI w g = t at *
  by_cases h4 : w < 4
  ·rw [if_pos h4] at HO
   have HO := Lib.hid HO
   go_enter Tryz.func208, Tryz.ntmps208
   go_wp2_with (first
    | (go_at_call 206; refine (implFieldRight_any _ _ _ _).mono ?_; rintro e w1 ⟨rfl, hb1⟩; obtain ⟨y0, y1, y2⟩ := fdCells ((hb1.block W.heap.size (by simp)).trans HA.out))
    | (go_at_call 214; refine (HM _).out.mono ?_; rintro e w2 ⟨rfl, hb2⟩))
   go_ret
   exact ⟨by rw [HO.out]; rfl, (HB.out.trans (hb1.mono HB.out.size)).trans (hb2.mono (Nat.le_trans HB.out.size hb1.size))⟩
  ·rw [if_neg h4] at HO
   have HO := Lib.hid HO
   go_enter Tryz.func208, Tryz.ntmps208
   go_wp2_with (first
    | (go_at_call 206; refine (implFieldRight_any _ _ _ _).mono ?_; rintro e w1 ⟨rfl, hb1⟩; obtain ⟨y0, y1, y2⟩ := fdCells ((hb1.block W.heap.size (by simp)).trans HA.out))
    | (go_at_call 214; refine (HM _).out.mono ?_; rintro e w2 ⟨rfl, hb2⟩))
   go_ret
   exact ⟨by rw [HO.out]; rfl, (HB.out.trans (hb1.mono HB.out.size)).trans (hb2.mono (Nat.le_trans HB.out.size hb1.size))⟩
 ·have HO := Lib.hid (highI_off (g := g) h1)
  go_enter Tryz.func208, Tryz.ntmps208
  go_wp2_with (go_at_call 206; refine (implFieldRight_any _ _ _ _).mono ?_; rintro e w1 ⟨rfl, hb1⟩; obtain ⟨y0, y1, y2⟩ := fdCells ((hb1.block W.heap.size (by simp)).trans HA.out))
  go_ret
  exact ⟨by rw [HO.out]; rfl, HB.out.trans (hb1.mono HB.out.size)⟩

set_option maxHeartbeats 1000000 in
theorem l07Low_any (a w : Int) (g : Bool) (W : World) (hf : fieldB a w = true) :
  Calls Tryz.prog 158 #[fdV a w g] W fun e W' => e = .returned (.int .i64 (lowI a w g)) ∧ Below W.heap.size W W' := by
 unfold fdV
 have HB := Lib.hid (show Below W.heap.size W (W.alloc (.cells #[.int .i64 a, .int .i64 w, .bool g] 147)) from (Below.refl _ _).alloc (Nat.le_refl _) _)
 obtain ⟨_, _, h2, h3⟩ := fieldB_of hf
 have hp1 := powI_pos (w - 1)
 have hp2 := powI_le (w := w - 1) (by omega)
 have h0 : 0 ≤ w - 1 := by omega
 have h1 : w - 1 ≤ 32 := by omega
 have HP := fun W => Lib.hid (l07Pow_any (w - 1) W h0 h1)
 cases g
 ·go_enter Tryz.func158, Tryz.ntmps158
  go_wp2
  go_ret
  exact ⟨by rw [lowI_plain]; rfl, HB.out⟩
 ·have HO := Lib.hid (lowI_on hf)
  go_enter Tryz.func158, Tryz.ntmps158
  go_wp2_with (go_at_call 161; refine (HP _).out.mono ?_; rintro e w1 ⟨rfl, rfl⟩)
  go_ret
  exact ⟨by rw [HO.out]; rfl, HB.out⟩
set_option maxHeartbeats 1000000 in
theorem l07Top_any (a w : Int) (g : Bool) (W : World) (hw0 : 1 ≤ w) (hw1 : w ≤ 32) :
  Calls Tryz.prog 160 #[fdV a w g] W fun e W' => e = .returned (.int .i64 (topI w g)) ∧ Below W.heap.size W W' := by
 unfold fdV
 have HB := Lib.hid (show Below W.heap.size W (W.alloc (.cells #[.int .i64 a, .int .i64 w, .bool g] 147)) from (Below.refl _ _).alloc (Nat.le_refl _) _)
 cases g
 ·have HO := Lib.hid (show topI w false = powI w - 1 from rfl)
  have hp1 := powI_pos w
  have hp2 := powI_le hw1
  have HP := fun W => Lib.hid (l07Pow_any w W (by omega) hw1)
  go_enter Tryz.func160, Tryz.ntmps160
  go_wp2_with (go_at_call 161; refine (HP _).out.mono ?_; rintro e w1 ⟨rfl, rfl⟩)
  go_ret
  exact ⟨by rw [HO.out]; rfl, HB.out⟩
 ·have HO := Lib.hid (show topI w true = powI (w - 1) - 1 from rfl)
  have hp1 := powI_pos (w - 1)
  have hp2 := powI_le (w := w - 1) (by omega)
  have HP := fun W => Lib.hid (l07Pow_any (w - 1) W (by omega) (by omega))
  go_enter Tryz.func160, Tryz.ntmps160
  go_wp2_with (go_at_call 161; refine (HP _).out.mono ?_; rintro e w1 ⟨rfl, rfl⟩)
  go_ret
  exact ⟨by rw [HO.out]; rfl, HB.out⟩
set_option maxHeartbeats 1000000 in
theorem l07High_any (a w : Int) (g : Bool) (W : World) (hf : fieldB a w = true) :
  Calls Tryz.prog 159 #[fdV a w g] W fun e W' => e = .returned (.int .i64 (highI a w g)) ∧ Below W.heap.size W W' := by
 unfold fdV
 have HB := Lib.hid (show Below W.heap.size W (W.alloc (.cells #[.int .i64 a, .int .i64 w, .bool g] 147)) from (Below.refl _ _).alloc (Nat.le_refl _) _)
 obtain ⟨_, _, h2, h3⟩ := fieldB_of hf
 have ht := topI_in g h2 h3
 have HM := fun W => Lib.hid (l07Top_any a w g W h2 h3)
 have HO := highI_on (g := g) hf
 generalize topI w g = t at *
 by_cases h4 : w < 4
 ·rw [if_pos h4] at HO
  have HO := Lib.hid HO
  go_enter Tryz.func159, Tryz.ntmps159
  go_wp2_with (go_at_call 160; refine (HM _).out.mono ?_; rintro e w2 ⟨rfl, hb2⟩)
  go_ret
  exact ⟨by rw [HO.out]; rfl, HB.out.trans (hb2.mono HB.out.size)⟩
 ·rw [if_neg h4] at HO
  have HO := Lib.hid HO
  go_enter Tryz.func159, Tryz.ntmps159
  go_wp2_with (go_at_call 160; refine (HM _).out.mono ?_; rintro e w2 ⟨rfl, hb2⟩)
  go_ret
  exact ⟨by rw [HO.out]; rfl, HB.out.trans (hb2.mono HB.out.size)⟩
end Go.Proofs.YtioldepgoodipaaGreat
namespace Go.Proofs.YtioldepgoodipaaGreat
open Go.RowKit
set_option linter.unusedVariables false

structure Fd where
 a : Int
 w : Int
 g : Bool
def fdL (x : Fd) : List Value := [.int .i64 x.a, .int .i64 x.w, .bool x.g]
theorem fdL_len (x : Fd) : (fdL x).length = 3 := rfl
def fdAt (l : List Fd) (i : Nat) : Fd := l[i]?.getD ⟨0, 0, false⟩
theorem fdAt_some {l : List Fd} {i : Nat} (h : i < l.length) : l[i]? = some (fdAt l i) := by
 unfold fdAt
 rw [List.getElem?_eq_getElem h]
 rfl
def markFd (q : Nat) : Fd := ⟨((q : Nat) : Int), ((q + 1 : Nat) : Int), (((q + 2 : Nat) : Int) % 3 == 0)⟩
def marksFd (k m : Nat) : List Fd := (List.range m).map fun i => markFd (k + 3 * i)
end Go.Proofs.YtioldepgoodipaaGreat
namespace Go.Proofs.YtioldepgoodipaaGreat
open Go.RowKit
set_option linter.unusedVariables false

structure Df where
 p : Int
 s : Int
 r : Int
 fs : List Fd
def dfs : List Df := [⟨127250, 8, 2, [⟨0, 8, false⟩, ⟨8, 16, false⟩, ⟨24, 16, true⟩, ⟨40, 16, true⟩, ⟨56, 2, false⟩]⟩, ⟨127488, 8, 2, [⟨0, 8, false⟩, ⟨8, 16, false⟩, ⟨24, 16, false⟩, ⟨40, 8, true⟩]⟩, ⟨128267, 8, 3, [⟨0, 8, false⟩, ⟨8, 32, false⟩, ⟨40, 16, true⟩, ⟨56, 8, false⟩]⟩, ⟨128275, 14, 6, [⟨0, 16, false⟩, ⟨16, 32, false⟩, ⟨48, 32, false⟩, ⟨80, 32, false⟩]⟩, ⟨129025, 8, 2, [⟨0, 32, true⟩, ⟨32, 32, true⟩]⟩, ⟨130306, 8, 2, [⟨0, 8, false⟩, ⟨8, 16, false⟩, ⟨24, 16, false⟩, ⟨40, 3, false⟩]⟩]
def ixD (p : Int) : Nat := if p = 127250 then 0 else if p = 127488 then 1 else if p = 128267 then 2 else if p = 128275 then 3 else if p = 129025 then 4 else if p = 130306 then 5 else 6
def defD (p : Int) : Df := dfs[ixD p]?.getD ⟨0, 0, 0, []⟩
structure Dx where
 p : Int
 s : Int
 r : Int
 a : Option Addr
 n : Nat
def dxL (x : Dx) : List Value := [.int .i64 x.p, .int .i64 x.s, .int .i64 x.r, .slice x.a x.n x.n]
theorem dxL_len (x : Dx) : (dxL x).length = 4 := rfl
def dxs (B : Nat) : List Dx := [⟨127250, 8, 2, some ⟨B, 0, none⟩, 5⟩, ⟨127488, 8, 2, some ⟨B + 1, 0, none⟩, 4⟩, ⟨128267, 8, 3, some ⟨B + 1 + 1, 0, none⟩, 4⟩, ⟨128275, 14, 6, some ⟨B + 1 + 1 + 1, 0, none⟩, 4⟩, ⟨129025, 8, 2, some ⟨B + 1 + 1 + 1 + 1, 0, none⟩, 2⟩, ⟨130306, 8, 2, some ⟨B + 1 + 1 + 1 + 1 + 1, 0, none⟩, 4⟩]
def dxAt (B : Nat) (i : Nat) : Dx := (dxs B)[i]?.getD ⟨0, 0, 0, none, 0⟩
def dxD (B : Nat) (p : Int) : Dx := dxAt B (ixD p)
theorem dxAt_some {B i : Nat} (h : i < 6) : (dxs B)[i]? = some (dxAt B i) := by
 unfold dxAt
 rw [List.getElem?_eq_getElem (show i < (dxs B).length from h)]
 rfl
def pAt (i : Nat) : Int := (dxAt 0 i).p
theorem dxAt_p (B i : Nat) : (dxAt B i).p = pAt i := by
 rcases i with _ | _ | _ | _ | _ | _ | i <;> rfl
theorem ixD_le (p : Int) : ixD p ≤ 6 := by
 unfold ixD
 repeat' split
 all_goals omega
theorem ixD_at (i : Nat) (h : i < 6) : ixD (pAt i) = i := by
 rcases i with _ | _ | _ | _ | _ | _ | i
 all_goals first | rfl | omega
theorem ixD_of {p : Int} {i : Nat} (h : i < 6) (hp : pAt i = p) : ixD p = i := by rw [← hp]; exact ixD_at i h
theorem pAt_0 : pAt 0 = 127250 := rfl
theorem pAt_1 : pAt 1 = 127488 := rfl
theorem pAt_2 : pAt 2 = 128267 := rfl
theorem pAt_3 : pAt 3 = 128275 := rfl
theorem pAt_4 : pAt 4 = 129025 := rfl
theorem pAt_5 : pAt 5 = 130306 := rfl
theorem pAt_mono {i j : Nat} (hij : i < j) (hj : j < 6) : pAt i < pAt j := by
 rcases j with _ | _ | _ | _ | _ | _ | j
 all_goals first | omega | skip
 all_goals rcases i with _ | _ | _ | _ | _ | i
 all_goals first | omega | decide
theorem ixD_no {p : Int} {i : Nat} (hi : i ≤ 6) (h1 : ∀ j, j < i → pAt j < p) (h2 : i < 6 → p < pAt i) : ixD p = 6 := by
 have hne : ∀ j, j < 6 → p ≠ pAt j := by
  intro j hj e
  rcases Nat.lt_or_ge j i with h | h
  ·have := h1 j h
   omega
  ·have h3 := h2 (by omega)
   rcases Nat.lt_or_ge i j with h4 | h4
   ·have := pAt_mono h4 hj
    omega
   ·obtain rfl : i = j := by omega
    omega
 have n0 := hne 0 (by omega)
 have n1 := hne 1 (by omega)
 have n2 := hne 2 (by omega)
 have n3 := hne 3 (by omega)
 have n4 := hne 4 (by omega)
 have n5 := hne 5 (by omega)
 rw [pAt_0] at n0
 rw [pAt_1] at n1
 rw [pAt_2] at n2
 rw [pAt_3] at n3
 rw [pAt_4] at n4
 rw [pAt_5] at n5
 unfold ixD
 rw [if_neg n0, if_neg n1, if_neg n2, if_neg n3, if_neg n4, if_neg n5]

def allocL : World → List Obj → World
 | w, [] => w
 | w, o :: r => allocL (w.alloc o) r
theorem allocL_below : ∀ (l : List Obj) (w : World), Below w.heap.size w (allocL w l)
 | [], w => Below.refl _ _
 | o :: r, w => ((Below.refl w.heap.size w).alloc (Nat.le_refl _) o).trans ((allocL_below r (w.alloc o)).mono (by simp))
theorem allocL_at : ∀ (l : List Obj) (w : World) (i : Nat) (o : Obj), l[i]? = some o → (allocL w l).heap[w.heap.size + i]? = some o
 | [], w, i, o, h => by simp at h
 | o' :: r, w, i, o, h => by
  rcases i with _ | i
  ·simp at h
   subst h
   exact ((allocL_below r (w.alloc o')).block _ (by simp)).trans (heap_alloc_new w o')
  ·simp at h
   have := allocL_at r (w.alloc o') i o h
   rw [show w.heap.size + (i + 1) = (w.alloc o').heap.size + i by simp; omega]
   exact this
structure TabAt (B G : Nat) (w : World) : Prop where
 rows : w.heap[G]? = some (.cells ((dxs B).flatMap dxL).toArray 81 (0, 0))
 flds : ∀ (i : Nat) (x : Df), dfs[i]? = some x → w.heap[B + i]? = some (.cells (x.fs.flatMap fdL).toArray 147 (0, 0))
theorem TabAt.kept {B G : Nat} {w w' : World} (h : TabAt B G w) (hb : Below w.heap.size w w') : TabAt B G w' :=
 ⟨(hb.block G (Array.getElem?_eq_some_iff.1 h.rows).1).trans h.rows, fun i x hx => (hb.block _ (Array.getElem?_eq_some_iff.1 (h.flds i x hx)).1).trans (h.flds i x hx)⟩
theorem TabAt.cells {B G : Nat} {w : World} (h : TabAt B G w) {i : Nat} (hi : i < 6) (j : Nat) (v : Value) (hv : (dxL (dxAt B i))[j]? = some v) : w.cell? ⟨G, i * 4 + j, none⟩ = some v := by
 rw [cell_of_row w G _ _ _ (0, 0) h.rows]
 have := flat_at dxL 4 dxL_len (dxs B) i _ (dxAt_some hi) j v hv
 simpa using this
theorem TabAt.lt {B G : Nat} {w : World} (h : TabAt B G w) : G < w.heap.size := (Array.getElem?_eq_some_iff.1 h.rows).1

set_option maxRecDepth 100000 in
set_option maxHeartbeats 4000000 in
theorem defs_any (w : World) :
  Calls Tryz.prog 103 #[] w fun e w' => ∃ G, e = .returned (.slice (some ⟨G, 0, none⟩) 6 6) ∧ TabAt w.heap.size G w' ∧ Below w.heap.size w w' := by
 have HA := Lib.hid (allocL_at [.cells (List.flatMap fdL [⟨0, 8, false⟩, ⟨8, 16, false⟩, ⟨24, 16, true⟩, ⟨40, 16, true⟩, ⟨56, 2, false⟩]).toArray 147, .cells (List.flatMap fdL [⟨0, 8, false⟩, ⟨8, 16, false⟩, ⟨24, 16, false⟩, ⟨40, 8, true⟩]).toArray 147, .cells (List.flatMap fdL [⟨0, 8, false⟩, ⟨8, 32, false⟩, ⟨40, 16, true⟩, ⟨56, 8, false⟩]).toArray 147, .cells (List.flatMap fdL [⟨0, 16, false⟩, ⟨16, 32, false⟩, ⟨48, 32, false⟩, ⟨80, 32, false⟩]).toArray 147, .cells (List.flatMap fdL [⟨0, 32, true⟩, ⟨32, 32, true⟩]).toArray 147, .cells (List.flatMap fdL [⟨0, 8, false⟩, ⟨8, 16, false⟩, ⟨24, 16, false⟩, ⟨40, 3, false⟩]).toArray 147, .cells ((dxs w.heap.size).flatMap dxL).toArray 81] w)
 have HB := Lib.hid (allocL_below [.cells (List.flatMap fdL [⟨0, 8, false⟩, ⟨8, 16, false⟩, ⟨24, 16, true⟩, ⟨40, 16, true⟩, ⟨56, 2, false⟩]).toArray 147, .cells (List.flatMap fdL [⟨0, 8, false⟩, ⟨8, 16, false⟩, ⟨24, 16, false⟩, ⟨40, 8, true⟩]).toArray 147, .cells (List.flatMap fdL [⟨0, 8, false⟩, ⟨8, 32, false⟩, ⟨40, 16, true⟩, ⟨56, 8, false⟩]).toArray 147, .cells (List.flatMap fdL [⟨0, 16, false⟩, ⟨16, 32, false⟩, ⟨48, 32, false⟩, ⟨80, 32, false⟩]).toArray 147, .cells (List.flatMap fdL [⟨0, 32, true⟩, ⟨32, 32, true⟩]).toArray 147, .cells (List.flatMap fdL [⟨0, 8, false⟩, ⟨8, 16, false⟩, ⟨24, 16, false⟩, ⟨40, 3, false⟩]).toArray 147, .cells ((dxs w.heap.size).flatMap dxL).toArray 81] w)
 go_enter Tryz.func103, Tryz.ntmps103
 go_wp2
 go_ret
 refine ⟨_, rfl, ⟨?_, ?_⟩, HB.out⟩
 ·exact HA.out 6 _ rfl
 ·intro i x hx
  rcases i with _ | _ | _ | _ | _ | _ | i
  ·cases hx; exact HA.out 0 _ rfl
  ·cases hx; exact HA.out 1 _ rfl
  ·cases hx; exact HA.out 2 _ rfl
  ·cases hx; exact HA.out 3 _ rfl
  ·cases hx; exact HA.out 4 _ rfl
  ·cases hx; exact HA.out 5 _ rfl
  ·simp [dfs] at hx
set_option maxRecDepth 100000 in
theorem pgnOf_any (x : Dx) (w : World) :
  Calls Tryz.prog 104 #[.agg (dxL x).toArray] w fun e w' => e = .returned (.int .i64 x.p) ∧ Below w.heap.size w w' := by
 obtain ⟨p, s, r, a, n⟩ := x
 unfold dxL
 go_enter Tryz.func104, Tryz.ntmps104
 go_wp2
 go_ret
 exact ⟨rfl, (Below.refl _ _).alloc (Nat.le_refl _) _⟩
set_option maxRecDepth 100000 in
set_option maxHeartbeats 8000000 in
theorem rowOf_any (B G : Nat) (key : Int) (w : World) (h : TabAt B G w) :
  Calls Tryz.prog 102 #[.slice (some ⟨G, 0, none⟩) 6 6, .int .i64 key, .func (.func 104) #[] #[]] w fun e w' => e = .returned (.tuple #[.agg (dxL (dxD B key)).toArray, .bool (decide (ixD key < 6))]) ∧ Below w.heap.size w w' := by
 have HT := Lib.hid h
 have lG := h.lt
 clear h
 have H60 := Lib.hid (heap_alloc_new w (.cells #[.int .i64 0, .int .i64 0, .int .i64 0, .slice none 0 0] 81))
 have H80 := Lib.hid (heap_alloc_new (w.alloc (.cells #[.int .i64 0, .int .i64 0, .int .i64 0, .slice none 0 0] 81)) (.cells #[.int .i64 0, .int .i64 0, .int .i64 0, .slice none 0 0] 81))
 go_enter Tryz.func102, Tryz.ntmps102
 go_wp2_with fail
 go_step3
 go_wp2_with fail
 go_step3
 go_wp2_with fail
 go_loopw [9, 15] (fun v i wr => ∃ k : Nat, i = .int .i64 (k : Int) ∧ v = .bool false ∧ k ≤ 6 ∧ (∀ j, j < k → pAt j < key) ∧ Below w.heap.size w wr ∧ w.heap.size + 2 ≤ wr.heap.size ∧ wr.heap[w.heap.size]? = some (.cells #[.int .i64 0, .int .i64 0, .int .i64 0, .slice none 0 0] 81 (0, 0)) ∧ wr.heap[w.heap.size + 1]? = some (.cells #[.int .i64 0, .int .i64 0, .int .i64 0, .slice none 0 0] 81 (0, 0))) (fun _ i _ => 6 - (intOf i).toNat)
 case atStart =>
  refine ⟨0, rfl, rfl, by omega, fun j hj => absurd hj (by omega), ((Below.refl _ _).alloc (Nat.le_refl _) _).alloc (by simp) _, by simp, ?_, ?_⟩
  ·rw [Below.heap_alloc _ _ _ (by simp)]
   exact H60.out
  ·have := H80.out
   simpa using this
 case round =>
  obtain ⟨k, rfl, rfl, hk, hall, hb, hs2, h6, h8⟩ := hrel
  have HA := Lib.hid hall
  have H6 := Lib.hid h6
  have H8 := Lib.hid h8
  have l6 : w.heap.size < wr.heap.size := by omega
  have l8 : w.heap.size + 1 < wr.heap.size := by omega
  clear hall h6 h8 H60 H80
  by_cases hkn : k < 6
  ·have hi1 : (0 : Int) ≤ (k : Int) := by omega
   have hi2 : (k : Int) < 6 := by omega
   have HCs := Lib.hid (fun j v hv => (HT.out.kept hb).cells hkn (B := B) j v hv)
   have HP := Lib.hid (dxAt_p B k)
   have HX := Lib.hid (show ∀ q, pAt k = q → q = key → dxD B key = dxAt B k from fun q h1 h2 => by unfold dxD; rw [ixD_of hkn (h1.trans h2)])
   generalize hx : dxAt B k = x at *
   obtain ⟨p, s, r, a, n⟩ := x
   unfold dxL at HCs
   dsimp only at *
   go_wp2_with (first
    | (refine wpList_load_cells rfl 81 (.tmp 17) rfl G (k * 4) rfl [.int .i64 p, .int .i64 s, .int .i64 r, .slice a n n] HCs.out _ Tryz.underlying81 rfl (by kernel_rfl) ?_)
    | (refine wpList_alloc_h rfl 81 rfl (.agg #[.int .i64 0, .int .i64 0, .int .i64 0, .slice none 0 0]) (by kernel_rfl) #[.int .i64 0, .int .i64 0, .int .i64 0, .slice none 0 0] rfl ?_; intro w1 R1 e1 g1 b1; have HL1 := Lib.hid (show Lg wr w1 [(R1, #[.int .i64 0, .int .i64 0, .int .i64 0, .slice none 0 0], 81)] [] from (Lg.first wr).box e1 g1 b1); clear g1 b1 e1)
    | (refine wpList_put_at rfl 81 (.tmp 11) (.tmp 18) rfl rfl (R1) 0 rfl _ rfl #[.int .i64 p, .int .i64 s, .int .i64 r, .slice a n n] rfl 81 #[.int .i64 0, .int .i64 0, .int .i64 0, .slice none 0 0] #[.int .i64 p, .int .i64 s, .int .i64 r, .slice a n n] (HL1.out.get (.head _)) (by kernel_rfl) (by kernel_rfl) (by kernel_rfl) (by kernel_rfl) ?_; intro w2 g2 o2; have HL2 := Lib.hid (show Lg wr w2 [(R1, #[.int .i64 p, .int .i64 s, .int .i64 r, .slice a n n], 81)] [] from HL1.out.put 0 rfl g2 o2 (fun _ h => nomatch h) (fun _ h => nomatch h) rfl); clear g2 o2)
    | (refine wpList_load_at rfl 81 (.tmp 11) rfl (R1) 0 rfl 81 #[.int .i64 p, .int .i64 s, .int .i64 r, .slice a n n] (0, 0) (HL2.out.get (.head _)) [.int .i64 p, .int .i64 s, .int .i64 r, .slice a n n] rfl _ Tryz.underlying81 rfl (by kernel_rfl) ?_))
   refine (pgnOf_any ⟨p, s, r, a, n⟩ _).mono ?_
   rintro e w3 ⟨rfl, h⟩
   have HL3 := Lib.hid (show Lg wr w3 [(R1, #[.int .i64 p, .int .i64 s, .int .i64 r, .slice a n n], 81)] [] from HL2.out.kept h)
   clear h
   have HZ6 := Lib.hid ((HL3.out.below.block w.heap.size l6).trans H6.out)
   have HZ8 := Lib.hid ((HL3.out.below.block (w.heap.size + 1) l8).trans H8.out)
   rcases Int.lt_trichotomy p key with hlt | heq | hgt
   ·have e1 : (p == key) = false := by simp; omega
    have e2 : decide (key < p) = false := decide_eq_false (by omega)
    go_wp2_with fail
    go_roundw
    case rel =>
     refine ⟨k + 1, by go_num, rfl, by omega, fun j hj => ?_, hb.trans (HL3.out.below.mono hb.size), Nat.le_trans hs2 HL3.out.below.size, HZ6.out, HZ8.out⟩
     rcases Nat.lt_or_ge j k with h | h
     ·exact HA.out j h
     ·obtain rfl : j = k := by omega
      rw [← HP.out]
      exact hlt
    case measure => simp [intOf]; omega
   ·subst heq
    have e1 : (p == p) = true := by simp
    have HV := Lib.hid (HX.out p HP.out.symm rfl)
    have HI := Lib.hid (show decide (ixD p < 6) = true from decide_eq_true (by rw [ixD_of hkn HP.out.symm]; exact hkn))
    clear HX
    have l63 := Nat.lt_of_lt_of_le l6 HL3.out.below.size
    go_wp2_with (first
     | (refine wpList_load_at rfl 81 (.tmp 11) rfl (R1) 0 rfl 81 #[.int .i64 p, .int .i64 s, .int .i64 r, .slice a n n] (0, 0) (HL3.out.get (.head _)) [.int .i64 p, .int .i64 s, .int .i64 r, .slice a n n] rfl _ Tryz.underlying81 rfl (by kernel_rfl) ?_)
     | (refine wpList_put_at rfl 81 (.tmp 8) (.tmp 26) rfl rfl (w.heap.size + 1) 0 rfl (.agg #[.int .i64 p, .int .i64 s, .int .i64 r, .slice a n n]) rfl #[.int .i64 p, .int .i64 s, .int .i64 r, .slice a n n] rfl 81 #[.int .i64 0, .int .i64 0, .int .i64 0, .slice none 0 0] #[.int .i64 p, .int .i64 s, .int .i64 r, .slice a n n] HZ8.out (by kernel_rfl) (by kernel_rfl) (by kernel_rfl) (by kernel_rfl) ?_; intro w4 g4 o4; have HG4 := Lib.hid g4; have HO4 := Lib.hid o4; have HZ64 := Lib.hid ((o4.block w.heap.size l63 (.inl (Nat.lt_succ_self _))).trans HZ6.out); clear g4 o4)
     | (refine wpList_load_at rfl 81 (.tmp 8) rfl (w.heap.size + 1) 0 rfl 81 #[.int .i64 p, .int .i64 s, .int .i64 r, .slice a n n] (0, 0) HG4.out [.int .i64 p, .int .i64 s, .int .i64 r, .slice a n n] rfl _ Tryz.underlying81 rfl (by kernel_rfl) ?_)
     | (refine wpList_put_at rfl 81 (.tmp 6) (.tmp 32) rfl rfl (w.heap.size) 0 rfl (.agg #[.int .i64 p, .int .i64 s, .int .i64 r, .slice a n n]) rfl #[.int .i64 p, .int .i64 s, .int .i64 r, .slice a n n] rfl 81 #[.int .i64 0, .int .i64 0, .int .i64 0, .slice none 0 0] #[.int .i64 p, .int .i64 s, .int .i64 r, .slice a n n] HZ64.out (by kernel_rfl) (by kernel_rfl) (by kernel_rfl) (by kernel_rfl) ?_; intro w5 g5 o5; have HG5 := Lib.hid g5; have HO5 := Lib.hid o5; clear g5 o5))
    have c0 := cell_of_row w5 w.heap.size 0 _ _ (0, 0) HG5.out
    have c1 := cell_of_row w5 w.heap.size 1 _ _ (0, 0) HG5.out
    have c2 := cell_of_row w5 w.heap.size 2 _ _ (0, 0) HG5.out
    have c3 := cell_of_row w5 w.heap.size 3 _ _ (0, 0) HG5.out
    simp only [List.getElem?_toArray, List.getElem?_cons_zero, List.getElem?_cons_succ] at c0 c1 c2 c3
    rw [Exit.noGoto_ret]
    exact bodyPost_ret (v := .tuple #[.agg #[.int .i64 p, .int .i64 s, .int .i64 r, .slice a n n], .bool true]) (by simp [results, Tryz.results102, go_sem, c0, c1, c2, c3]) rfl ⟨by rw [HV.out, HI.out]; rfl, HO5.out.below (HO4.out.below (hb.trans (HL3.out.below.mono hb.size)) (Nat.le_succ _) (Nat.le_trans hb.size HL3.out.below.size)) (Nat.le_refl _) (Nat.le_trans (Nat.le_trans hb.size HL3.out.below.size) HO4.out.size)⟩
   ·have e1 : (p == key) = false := by simp; omega
    have e2 : decide (key < p) = true := decide_eq_true (by omega)
    have HI := Lib.hid (show ixD key = 6 from ixD_no (Nat.le_of_lt hkn) HA.out (fun _ => by rw [← HP.out]; exact hgt))
    go_wp2_with (first
     | (refine wpList_load_at rfl 81 (.tmp 8) rfl (w.heap.size + 1) 0 rfl 81 #[.int .i64 0, .int .i64 0, .int .i64 0, .slice none 0 0] (0, 0) HZ8.out [.int .i64 0, .int .i64 0, .int .i64 0, .slice none 0 0] rfl _ Tryz.underlying81 rfl (by kernel_rfl) ?_)
     | (refine wpList_put_at rfl 81 (.tmp 6) (.tmp 32) rfl rfl (w.heap.size) 0 rfl (.agg #[.int .i64 0, .int .i64 0, .int .i64 0, .slice none 0 0]) rfl #[.int .i64 0, .int .i64 0, .int .i64 0, .slice none 0 0] rfl 81 #[.int .i64 0, .int .i64 0, .int .i64 0, .slice none 0 0] #[.int .i64 0, .int .i64 0, .int .i64 0, .slice none 0 0] HZ6.out (by kernel_rfl) (by kernel_rfl) (by kernel_rfl) (by kernel_rfl) ?_; intro w5 g5 o5; have HG5 := Lib.hid g5; have HO5 := Lib.hid o5; clear g5 o5))
    have c0 := cell_of_row w5 w.heap.size 0 _ _ (0, 0) HG5.out
    have c1 := cell_of_row w5 w.heap.size 1 _ _ (0, 0) HG5.out
    have c2 := cell_of_row w5 w.heap.size 2 _ _ (0, 0) HG5.out
    have c3 := cell_of_row w5 w.heap.size 3 _ _ (0, 0) HG5.out
    simp only [List.getElem?_toArray, List.getElem?_cons_zero, List.getElem?_cons_succ] at c0 c1 c2 c3
    rw [Exit.noGoto_ret]
    exact bodyPost_ret (v := .tuple #[.agg #[.int .i64 0, .int .i64 0, .int .i64 0, .slice none 0 0], .bool false]) (by simp [results, Tryz.results102, go_sem, c0, c1, c2, c3]) rfl ⟨by unfold dxD; rw [HI.out]; rfl, HO5.out.below (hb.trans (HL3.out.below.mono hb.size)) (Nat.le_refl _) (Nat.le_trans hb.size HL3.out.below.size)⟩
  ·have HI := Lib.hid (show ixD key = 6 from ixD_no (i := 6) (Nat.le_refl _) (fun j hj => HA.out j (by omega)) (fun h => absurd h (by omega)))
   go_wp2_with (first
    | (refine wpList_load_at rfl 81 (.tmp 8) rfl (w.heap.size + 1) 0 rfl 81 #[.int .i64 0, .int .i64 0, .int .i64 0, .slice none 0 0] (0, 0) H8.out [.int .i64 0, .int .i64 0, .int .i64 0, .slice none 0 0] rfl _ Tryz.underlying81 rfl (by kernel_rfl) ?_)
    | (refine wpList_put_at rfl 81 (.tmp 6) (.tmp 32) rfl rfl (w.heap.size) 0 rfl (.agg #[.int .i64 0, .int .i64 0, .int .i64 0, .slice none 0 0]) rfl #[.int .i64 0, .int .i64 0, .int .i64 0, .slice none 0 0] rfl 81 #[.int .i64 0, .int .i64 0, .int .i64 0, .slice none 0 0] #[.int .i64 0, .int .i64 0, .int .i64 0, .slice none 0 0] H6.out (by kernel_rfl) (by kernel_rfl) (by kernel_rfl) (by kernel_rfl) ?_; intro w5 g5 o5; have HG5 := Lib.hid g5; have HO5 := Lib.hid o5; clear g5 o5))
   have c0 := cell_of_row w5 w.heap.size 0 _ _ (0, 0) HG5.out
   have c1 := cell_of_row w5 w.heap.size 1 _ _ (0, 0) HG5.out
   have c2 := cell_of_row w5 w.heap.size 2 _ _ (0, 0) HG5.out
   have c3 := cell_of_row w5 w.heap.size 3 _ _ (0, 0) HG5.out
   simp only [List.getElem?_toArray, List.getElem?_cons_zero, List.getElem?_cons_succ] at c0 c1 c2 c3
   rw [Exit.noGoto_ret]
   exact bodyPost_ret (v := .tuple #[.agg #[.int .i64 0, .int .i64 0, .int .i64 0, .slice none 0 0], .bool false]) (by simp [results, Tryz.results102, go_sem, c0, c1, c2, c3]) rfl ⟨by unfold dxD; rw [HI.out]; rfl, HO5.out.below hb (Nat.le_refl _) hb.size⟩
end Go.Proofs.YtioldepgoodipaaGreat
namespace Go.Proofs.YtioldepgoodipaaGreat
open Go.RowKit
set_option linter.unusedVariables false

def aD (B : Nat) (p : Int) : Option Addr := if ixD p < 6 then some ⟨B + ixD p, 0, none⟩ else none
theorem dxD_eq (B : Nat) (p : Int) : dxD B p = ⟨(defD p).p, (defD p).s, (defD p).r, aD B p, (defD p).fs.length⟩ := by
 have h := ixD_le p
 unfold dxD defD aD
 generalize ixD p = i at *
 rcases i with _ | _ | _ | _ | _ | _ | _ | i
 all_goals first | rfl | omega
theorem TabAt.hi {B G : Nat} {w : World} (h : TabAt B G w) : B + 6 ≤ w.heap.size := (Array.getElem?_eq_some_iff.1 (h.flds 5 _ rfl)).1
theorem flds_new {B G : Nat} {w : World} {lo hi : Nat} (h : TabAt B G w) (hlo : lo ≤ B) (hhi : B + 6 ≤ hi) (p : Int) : RsNew fdL 3 147 lo hi w (aD B p) (defD p).fs := by
 unfold aD
 by_cases hp : ixD p < 6
 ·rw [if_pos hp]
  obtain ⟨x, hx⟩ : ∃ x, dfs[ixD p]? = some x := ⟨_, List.getElem?_eq_getElem (show ixD p < dfs.length from hp)⟩
  have hd : defD p = x := by unfold defD; rw [hx]; rfl
  rw [hd]
  refine .inr ⟨B + ixD p, 0, _, rfl, by omega, by omega, h.flds _ x hx, by simp [flat_len fdL 3 fdL_len], fun i y hy j v hv => ?_⟩
  have := flat_at fdL 3 fdL_len x.fs i y hy j v hv
  simpa using this
 ·have hd : defD p = ⟨0, 0, 0, []⟩ := by
   unfold defD
   rw [List.getElem?_eq_none (show dfs.length ≤ ixD p from by show 6 ≤ _; omega)]
   rfl
  rw [hd]
  exact .inl rfl
theorem rowOf_d (B G : Nat) (p : Int) (w : World) (h : TabAt B G w) :
  Calls Tryz.prog 102 #[.slice (some ⟨G, 0, none⟩) 6 6, .int .i64 p, .func (.func 104) #[] #[]] w fun e w' => e = .returned (.tuple #[.agg #[.int .i64 (defD p).p, .int .i64 (defD p).s, .int .i64 (defD p).r, .slice (aD B p) (defD p).fs.length (defD p).fs.length], .bool (decide (ixD p < 6))]) ∧ Below w.heap.size w w' := by
 have := rowOf_any B G p w h
 rw [dxD_eq] at this
 exact this
theorem defD_len (p : Int) : (defD p).fs.length ≤ 5 := by
 have h := ixD_le p
 unfold defD
 generalize ixD p = i at *
 rcases i with _ | _ | _ | _ | _ | _ | _ | i
 all_goals first | decide | omega
def DefOut (p : Int) (w : World) (e : Ending) (w' : World) : Prop :=
 ∃ a, e = .returned (.agg #[.int .i64 (defD p).p, .int .i64 (defD p).s, .int .i64 (defD p).r, .slice a (defD p).fs.length (defD p).fs.length]) ∧ RsNew fdL 3 147 w.heap.size w'.heap.size w' a (defD p).fs ∧ Below w.heap.size w w'

set_option maxRecDepth 100000 in
set_option maxHeartbeats 4000000 in
theorem implDefOf_any (p : Int) (w : World) : Calls Tryz.prog 49 #[.int .i64 p] w (DefOut p w) := by
 unfold DefOut
 have HRow := fun B G W h => Lib.hid (rowOf_d B G p W h)
 have HN := Lib.hid (fun B G W lo hi h1 h2 h3 => @flds_new B G W lo hi h1 h2 h3 p)
 generalize defD p = d at *
 obtain ⟨P, S, R, F⟩ := d
 dsimp only at *
 obtain ⟨N, hN⟩ : ∃ N, F.length = N := ⟨_, rfl⟩
 rw [hN] at HRow ⊢
 clear hN
 go_enter Tryz.func49, Tryz.ntmps49
 go_wp2_with (first
  | (refine wpList_alloc_h rfl 81 rfl (.agg #[.int .i64 0, .int .i64 0, .int .i64 0, .slice none 0 0]) (by kernel_rfl) #[.int .i64 0, .int .i64 0, .int .i64 0, .slice none 0 0] rfl ?_; intro w1 R1 e1 g1 b1; have HL1 := Lib.hid (show Lg w w1 [(R1, #[.int .i64 0, .int .i64 0, .int .i64 0, .slice none 0 0], 81)] [] from (Lg.first w).box e1 g1 b1); clear g1 b1 e1))
 refine (defs_any _).mono ?_
 rintro e w2 ⟨G, rfl, hT, h⟩
 obtain ⟨L2, e2⟩ : ∃ x, w1.heap.size = x := ⟨_, rfl⟩
 obtain ⟨H2, f2⟩ : ∃ x, w2.heap.size = x := ⟨_, rfl⟩
 have qL2_R1 : R1 < L2 := Nat.lt_of_lt_of_eq (HL1.out.lt (.head _)) e2
 have qH2_L2 : L2 ≤ H2 := (by rw [← e2, ← f2]; exact h.size)
 have HL2 := Lib.hid (show Lg w w2 [(R1, #[.int .i64 0, .int .i64 0, .int .i64 0, .slice none 0 0], 81)] [(L2, H2, fun W => RsNew fdL 3 147 L2 H2 W (aD L2 p) F)] from HL1.out.made e2 f2 h (by rw [← e2, ← f2]; exact (HN.out _ _ _ _ _ hT (Nat.le_refl _) hT.hi).solid))
 have HT2 := Lib.hid (show TabAt L2 G w2 from by rw [← e2]; exact hT)
 clear h hT e2 f2
 go_wp2_with fail
 refine ((HRow _ _ _ HT2.out).out).mono ?_
 rintro e w3 ⟨rfl, h⟩
 have HL3 := Lib.hid (show Lg w w3 [(R1, #[.int .i64 0, .int .i64 0, .int .i64 0, .slice none 0 0], 81)] [(L2, H2, fun W => RsNew fdL 3 147 L2 H2 W (aD L2 p) F)] from HL2.out.kept h)
 clear h
 go_wp2_with (first
  | (refine wpList_alloc_h rfl 81 rfl (.agg #[.int .i64 0, .int .i64 0, .int .i64 0, .slice none 0 0]) (by kernel_rfl) #[.int .i64 0, .int .i64 0, .int .i64 0, .slice none 0 0] rfl ?_; intro w4 R4 e4 g4 b4; have qR4_R1 : R1 < R4 := Nat.lt_of_lt_of_eq (HL3.out.lt (.head _)) e4; have qR4_H2 : H2 ≤ R4 := Nat.le_trans (HL3.out.hi (.head _)).2 (Nat.le_of_eq e4); have HL4 := Lib.hid (show Lg w w4 [(R4, #[.int .i64 0, .int .i64 0, .int .i64 0, .slice none 0 0], 81), (R1, #[.int .i64 0, .int .i64 0, .int .i64 0, .slice none 0 0], 81)] [(L2, H2, fun W => RsNew fdL 3 147 L2 H2 W (aD L2 p) F)] from HL3.out.box e4 g4 b4); clear g4 b4 e4)
  | (refine wpList_put_at rfl 81 (.tmp 3) (.tmp 9) rfl rfl (R4) 0 rfl _ rfl #[.int .i64 P, .int .i64 S, .int .i64 R, .slice (aD L2 p) N N] rfl 81 #[.int .i64 0, .int .i64 0, .int .i64 0, .slice none 0 0] #[.int .i64 P, .int .i64 S, .int .i64 R, .slice (aD L2 p) N N] (HL4.out.get (.head _)) (by kernel_rfl) (by kernel_rfl) (by kernel_rfl) (by kernel_rfl) ?_; intro w5 g5 o5; have HL5 := Lib.hid (show Lg w w5 [(R4, #[.int .i64 P, .int .i64 S, .int .i64 R, .slice (aD L2 p) N N], 81), (R1, #[.int .i64 0, .int .i64 0, .int .i64 0, .slice none 0 0], 81)] [(L2, H2, fun W => RsNew fdL 3 147 L2 H2 W (aD L2 p) F)] from HL4.out.put 0 rfl g5 o5 (qCf ⟨Nat.ne_of_lt qR4_R1, (fun _ h => nomatch h)⟩) (qCf ⟨.inl qR4_H2, (fun _ h => nomatch h)⟩) rfl); clear g5 o5)
  | (refine wpList_load_at rfl 81 (.tmp 3) rfl (R4) 0 rfl 81 #[.int .i64 P, .int .i64 S, .int .i64 R, .slice (aD L2 p) N N] (0, 0) (HL5.out.get (.head _)) [.int .i64 P, .int .i64 S, .int .i64 R, .slice (aD L2 p) N N] rfl _ Tryz.underlying81 rfl (by kernel_rfl) ?_)
  | (refine wpList_put_at rfl 81 (.tmp 2) (.tmp 11) rfl rfl (R1) 0 rfl _ rfl #[.int .i64 P, .int .i64 S, .int .i64 R, .slice (aD L2 p) N N] rfl 81 #[.int .i64 0, .int .i64 0, .int .i64 0, .slice none 0 0] #[.int .i64 P, .int .i64 S, .int .i64 R, .slice (aD L2 p) N N] (HL5.out.get qCm1) (by kernel_rfl) (by kernel_rfl) (by kernel_rfl) (by kernel_rfl) ?_; intro w6 g6 o6; have HL6 := Lib.hid (show Lg w w6 [(R4, #[.int .i64 P, .int .i64 S, .int .i64 R, .slice (aD L2 p) N N], 81), (R1, #[.int .i64 P, .int .i64 S, .int .i64 R, .slice (aD L2 p) N N], 81)] [(L2, H2, fun W => RsNew fdL 3 147 L2 H2 W (aD L2 p) F)] from HL5.out.put 1 rfl g6 o6 (qCf ⟨Nat.ne_of_gt qR4_R1, (fun _ h => nomatch h)⟩) (qCf ⟨.inr qL2_R1, (fun _ h => nomatch h)⟩) rfl); clear g6 o6))
 exact bodyPost_ret (results_cell_row (p := 2) (ty := 81) (by kernel_rfl) _ _ (R1) 81 _ (0, 0) _ rfl (HL6.out.get qCm1) Tryz.underlying81 rfl (by kernel_rfl)) rfl ⟨_, rfl, ((HL6.out.at (.head _)).wide (HL6.out.lo (.head _)) (HL6.out.hi (.head _)).2), HL6.out.below⟩
theorem l08Plain_any (a b : Int) (w : World) :
  Calls Tryz.prog 84 #[.int .i64 a, .int .i64 b] w fun e w' => e = .returned (.agg #[.int .i64 a, .int .i64 b, .bool false]) ∧ Below w.heap.size w w' := by
 go_enter Tryz.func84, Tryz.ntmps84
 go_wp2
 exact bodyPost_ret (v := .agg #[.int .i64 a, .int .i64 b, .bool false]) (by simp [results, Tryz.results84, go_sem]) rfl ⟨rfl, (Below.refl _ _).alloc (Nat.le_refl _) _⟩
theorem l08Signed_any (a b : Int) (w : World) :
  Calls Tryz.prog 85 #[.int .i64 a, .int .i64 b] w fun e w' => e = .returned (.agg #[.int .i64 a, .int .i64 b, .bool true]) ∧ Below w.heap.size w w' := by
 go_enter Tryz.func85, Tryz.ntmps85
 go_wp2
 exact bodyPost_ret (v := .agg #[.int .i64 a, .int .i64 b, .bool true]) (by simp [results, Tryz.results85, go_sem]) rfl ⟨rfl, (Below.refl _ _).alloc (Nat.le_refl _) _⟩
set_option maxRecDepth 100000 in
set_option maxHeartbeats 4000000 in
theorem specDefOf_0 (w : World) : Calls Tryz.prog 33 #[.int .i64 127250] w (DefOut 127250 w) := by
 unfold DefOut
 have hd : defD 127250 = ⟨127250, 8, 2, [⟨0, 8, false⟩, ⟨8, 16, false⟩, ⟨24, 16, true⟩, ⟨40, 16, true⟩, ⟨56, 2, false⟩]⟩ := rfl
 rw [hd]
 dsimp only [List.length_cons, List.length_nil]
 clear hd
 go_enter Tryz.func33, Tryz.ntmps33
 go_wp2_with (first
  | (refine wpList_alloc_h rfl 81 rfl (.agg #[.int .i64 0, .int .i64 0, .int .i64 0, .slice none 0 0]) (by kernel_rfl) #[.int .i64 0, .int .i64 0, .int .i64 0, .slice none 0 0] rfl ?_; intro w1 R1 e1 g1 b1; have HL1 := Lib.hid (show Lg w w1 [(R1, #[.int .i64 0, .int .i64 0, .int .i64 0, .slice none 0 0], 81)] [] from (Lg.first w).box e1 g1 b1); clear g1 b1 e1))
 refine (l08Plain_any 0 8 _).mono ?_
 rintro e w2 ⟨rfl, h⟩
 have HL2 := Lib.hid (show Lg w w2 [(R1, #[.int .i64 0, .int .i64 0, .int .i64 0, .slice none 0 0], 81)] [] from HL1.out.kept h)
 clear h
 go_wp2_with fail
 refine (l08Plain_any 8 16 _).mono ?_
 rintro e w3 ⟨rfl, h⟩
 have HL3 := Lib.hid (show Lg w w3 [(R1, #[.int .i64 0, .int .i64 0, .int .i64 0, .slice none 0 0], 81)] [] from HL2.out.kept h)
 clear h
 go_wp2_with fail
 refine (l08Signed_any 24 16 _).mono ?_
 rintro e w4 ⟨rfl, h⟩
 have HL4 := Lib.hid (show Lg w w4 [(R1, #[.int .i64 0, .int .i64 0, .int .i64 0, .slice none 0 0], 81)] [] from HL3.out.kept h)
 clear h
 go_wp2_with fail
 refine (l08Signed_any 40 16 _).mono ?_
 rintro e w5 ⟨rfl, h⟩
 have HL5 := Lib.hid (show Lg w w5 [(R1, #[.int .i64 0, .int .i64 0, .int .i64 0, .slice none 0 0], 81)] [] from HL4.out.kept h)
 clear h
 go_wp2_with fail
 refine (l08Plain_any 56 2 _).mono ?_
 rintro e w6 ⟨rfl, h⟩
 have HL6 := Lib.hid (show Lg w w6 [(R1, #[.int .i64 0, .int .i64 0, .int .i64 0, .slice none 0 0], 81)] [] from HL5.out.kept h)
 clear h
 obtain ⟨L, eL⟩ : ∃ x, w6.heap.size = x := ⟨_, rfl⟩
 obtain ⟨U, eU⟩ : ∃ U, w6.alloc (.cells #[.int .i64 0, .int .i64 8, .bool false, .int .i64 8, .int .i64 16, .bool false, .int .i64 24, .int .i64 16, .bool true, .int .i64 40, .int .i64 16, .bool true, .int .i64 56, .int .i64 2, .bool false] 147) = U := ⟨_, rfl⟩
 obtain ⟨H, eH⟩ : ∃ x, U.heap.size = x := ⟨_, rfl⟩
 have hbU : Below w6.heap.size w6 U := by rw [← eU]; exact (Below.refl _ _).alloc (Nat.le_refl _) _
 have hnU : RsNew fdL 3 147 L H U (some ⟨L, 0, none⟩) [⟨0, 8, false⟩, ⟨8, 16, false⟩, ⟨24, 16, true⟩, ⟨40, 16, true⟩, ⟨56, 2, false⟩] := .inr ⟨L, 0, _, rfl, Nat.le_refl _, by rw [← eL, ← eH, ← eU]; simp, by rw [← eL, ← eU]; exact heap_alloc_new _ _, by decide, fun i y hy j v hv => by
   have := flat_at fdL 3 fdL_len [⟨0, 8, false⟩, ⟨8, 16, false⟩, ⟨24, 16, true⟩, ⟨40, 16, true⟩, ⟨56, 2, false⟩] i y hy j v hv
   simpa [fdL] using this⟩
 have qL_R1 : R1 < L := Nat.lt_of_lt_of_eq (HL6.out.lt (.head _)) eL
 have HL7 := Lib.hid (show Lg w U [(R1, #[.int .i64 0, .int .i64 0, .int .i64 0, .slice none 0 0], 81)] [(L, H, fun W => RsNew fdL 3 147 L H W (some ⟨L, 0, none⟩) [⟨0, 8, false⟩, ⟨8, 16, false⟩, ⟨24, 16, true⟩, ⟨40, 16, true⟩, ⟨56, 2, false⟩])] from HL6.out.made eL eH hbU hnU.solid)
 clear hbU hnU
 go_wp2_with (first
  | (rw [eU, eL]; refine wpList_put_at rfl 81 (.tmp 2) (.tmp 13) rfl rfl (R1) 0 rfl _ rfl #[.int .i64 127250, .int .i64 8, .int .i64 2, .slice (some ⟨L, 0, none⟩) 5 5] rfl 81 #[.int .i64 0, .int .i64 0, .int .i64 0, .slice none 0 0] (qC9 (some ⟨L, 0, none⟩)) (HL7.out.get (.head _)) (by kernel_rfl) (by kernel_rfl) (by kernel_rfl) (by kernel_rfl) ?_; intro w8 g8 o8; have HL8 := Lib.hid (show Lg w w8 [(R1, (qC9 (some ⟨L, 0, none⟩)), 81)] [(L, H, fun W => RsNew fdL 3 147 L H W (some ⟨L, 0, none⟩) [⟨0, 8, false⟩, ⟨8, 16, false⟩, ⟨24, 16, true⟩, ⟨40, 16, true⟩, ⟨56, 2, false⟩])] from HL7.out.put 0 rfl g8 o8 (fun _ h => nomatch h) (qCf ⟨.inr qL_R1, (fun _ h => nomatch h)⟩) rfl); clear g8 o8)
  | (refine wpList_put_at rfl 81 (.tmp 2) (.tmp 13) rfl rfl (R1) 0 rfl _ rfl #[.int .i64 127250, .int .i64 8, .int .i64 2, .slice (some ⟨L, 0, none⟩) 5 5] rfl 81 #[.int .i64 0, .int .i64 0, .int .i64 0, .slice none 0 0] (qC9 (some ⟨L, 0, none⟩)) (HL7.out.get (.head _)) (by kernel_rfl) (by kernel_rfl) (by kernel_rfl) (by kernel_rfl) ?_; intro w8 g8 o8; have HL8 := Lib.hid (show Lg w w8 [(R1, (qC9 (some ⟨L, 0, none⟩)), 81)] [(L, H, fun W => RsNew fdL 3 147 L H W (some ⟨L, 0, none⟩) [⟨0, 8, false⟩, ⟨8, 16, false⟩, ⟨24, 16, true⟩, ⟨40, 16, true⟩, ⟨56, 2, false⟩])] from HL7.out.put 0 rfl g8 o8 (fun _ h => nomatch h) (qCf ⟨.inr qL_R1, (fun _ h => nomatch h)⟩) rfl); clear g8 o8))
 exact bodyPost_ret (results_cell_row (p := 2) (ty := 81) (by kernel_rfl) _ _ (R1) 81 _ (0, 0) _ rfl (HL8.out.get (.head _)) Tryz.underlying81 rfl (by kernel_rfl)) rfl ⟨_, rfl, ((HL8.out.at (.head _)).wide (HL8.out.lo (.head _)) (HL8.out.hi (.head _)).2), HL8.out.below⟩
set_option maxRecDepth 100000 in
set_option maxHeartbeats 4000000 in
theorem specDefOf_1 (w : World) : Calls Tryz.prog 33 #[.int .i64 127488] w (DefOut 127488 w) := by
 unfold DefOut
 have hd : defD 127488 = ⟨127488, 8, 2, [⟨0, 8, false⟩, ⟨8, 16, false⟩, ⟨24, 16, false⟩, ⟨40, 8, true⟩]⟩ := rfl
 rw [hd]
 dsimp only [List.length_cons, List.length_nil]
 clear hd
 have n0 : ((127488 : Int) == 127250) = false := by decide
 go_enter Tryz.func33, Tryz.ntmps33
 go_wp2_with (first
  | (refine wpList_alloc_h rfl 81 rfl (.agg #[.int .i64 0, .int .i64 0, .int .i64 0, .slice none 0 0]) (by kernel_rfl) #[.int .i64 0, .int .i64 0, .int .i64 0, .slice none 0 0] rfl ?_; intro w1 R1 e1 g1 b1; have HL1 := Lib.hid (show Lg w w1 [(R1, #[.int .i64 0, .int .i64 0, .int .i64 0, .slice none 0 0], 81)] [] from (Lg.first w).box e1 g1 b1); clear g1 b1 e1))
 refine (l08Plain_any 0 8 _).mono ?_
 rintro e w2 ⟨rfl, h⟩
 have HL2 := Lib.hid (show Lg w w2 [(R1, #[.int .i64 0, .int .i64 0, .int .i64 0, .slice none 0 0], 81)] [] from HL1.out.kept h)
 clear h
 go_wp2_with fail
 refine (l08Plain_any 8 16 _).mono ?_
 rintro e w3 ⟨rfl, h⟩
 have HL3 := Lib.hid (show Lg w w3 [(R1, #[.int .i64 0, .int .i64 0, .int .i64 0, .slice none 0 0], 81)] [] from HL2.out.kept h)
 clear h
 go_wp2_with fail
 refine (l08Plain_any 24 16 _).mono ?_
 rintro e w4 ⟨rfl, h⟩
 have HL4 := Lib.hid (show Lg w w4 [(R1, #[.int .i64 0, .int .i64 0, .int .i64 0, .slice none 0 0], 81)] [] from HL3.out.kept h)
 clear h
 go_wp2_with fail
 refine (l08Signed_any 40 8 _).mono ?_
 rintro e w5 ⟨rfl, h⟩
 have HL5 := Lib.hid (show Lg w w5 [(R1, #[.int .i64 0, .int .i64 0, .int .i64 0, .slice none 0 0], 81)] [] from HL4.out.kept h)
 clear h
 obtain ⟨L, eL⟩ : ∃ x, w5.heap.size = x := ⟨_, rfl⟩
 obtain ⟨U, eU⟩ : ∃ U, w5.alloc (.cells #[.int .i64 0, .int .i64 8, .bool false, .int .i64 8, .int .i64 16, .bool false, .int .i64 24, .int .i64 16, .bool false, .int .i64 40, .int .i64 8, .bool true] 147) = U := ⟨_, rfl⟩
 obtain ⟨H, eH⟩ : ∃ x, U.heap.size = x := ⟨_, rfl⟩
 have hbU : Below w5.heap.size w5 U := by rw [← eU]; exact (Below.refl _ _).alloc (Nat.le_refl _) _
 have hnU : RsNew fdL 3 147 L H U (some ⟨L, 0, none⟩) [⟨0, 8, false⟩, ⟨8, 16, false⟩, ⟨24, 16, false⟩, ⟨40, 8, true⟩] := .inr ⟨L, 0, _, rfl, Nat.le_refl _, by rw [← eL, ← eH, ← eU]; simp, by rw [← eL, ← eU]; exact heap_alloc_new _ _, by decide, fun i y hy j v hv => by
   have := flat_at fdL 3 fdL_len [⟨0, 8, false⟩, ⟨8, 16, false⟩, ⟨24, 16, false⟩, ⟨40, 8, true⟩] i y hy j v hv
   simpa [fdL] using this⟩
 have qL_R1 : R1 < L := Nat.lt_of_lt_of_eq (HL5.out.lt (.head _)) eL
 have HL6 := Lib.hid (show Lg w U [(R1, #[.int .i64 0, .int .i64 0, .int .i64 0, .slice none 0 0], 81)] [(L, H, fun W => RsNew fdL 3 147 L H W (some ⟨L, 0, none⟩) [⟨0, 8, false⟩, ⟨8, 16, false⟩, ⟨24, 16, false⟩, ⟨40, 8, true⟩])] from HL5.out.made eL eH hbU hnU.solid)
 clear hbU hnU
 go_wp2_with (first
  | (rw [eU, eL]; refine wpList_put_at rfl 81 (.tmp 2) (.tmp 22) rfl rfl (R1) 0 rfl _ rfl #[.int .i64 127488, .int .i64 8, .int .i64 2, .slice (some ⟨L, 0, none⟩) 4 4] rfl 81 #[.int .i64 0, .int .i64 0, .int .i64 0, .slice none 0 0] (qC10 (some ⟨L, 0, none⟩)) (HL6.out.get (.head _)) (by kernel_rfl) (by kernel_rfl) (by kernel_rfl) (by kernel_rfl) ?_; intro w7 g7 o7; have HL7 := Lib.hid (show Lg w w7 [(R1, (qC10 (some ⟨L, 0, none⟩)), 81)] [(L, H, fun W => RsNew fdL 3 147 L H W (some ⟨L, 0, none⟩) [⟨0, 8, false⟩, ⟨8, 16, false⟩, ⟨24, 16, false⟩, ⟨40, 8, true⟩])] from HL6.out.put 0 rfl g7 o7 (fun _ h => nomatch h) (qCf ⟨.inr qL_R1, (fun _ h => nomatch h)⟩) rfl); clear g7 o7)
  | (refine wpList_put_at rfl 81 (.tmp 2) (.tmp 22) rfl rfl (R1) 0 rfl _ rfl #[.int .i64 127488, .int .i64 8, .int .i64 2, .slice (some ⟨L, 0, none⟩) 4 4] rfl 81 #[.int .i64 0, .int .i64 0, .int .i64 0, .slice none 0 0] (qC10 (some ⟨L, 0, none⟩)) (HL6.out.get (.head _)) (by kernel_rfl) (by kernel_rfl) (by kernel_rfl) (by kernel_rfl) ?_; intro w7 g7 o7; have HL7 := Lib.hid (show Lg w w7 [(R1, (qC10 (some ⟨L, 0, none⟩)), 81)] [(L, H, fun W => RsNew fdL 3 147 L H W (some ⟨L, 0, none⟩) [⟨0, 8, false⟩, ⟨8, 16, false⟩, ⟨24, 16, false⟩, ⟨40, 8, true⟩])] from HL6.out.put 0 rfl g7 o7 (fun _ h => nomatch h) (qCf ⟨.inr qL_R1, (fun _ h => nomatch h)⟩) rfl); clear g7 o7))
 exact bodyPost_ret (results_cell_row (p := 2) (ty := 81) (by kernel_rfl) _ _ (R1) 81 _ (0, 0) _ rfl (HL7.out.get (.head _)) Tryz.underlying81 rfl (by kernel_rfl)) rfl ⟨_, rfl, ((HL7.out.at (.head _)).wide (HL7.out.lo (.head _)) (HL7.out.hi (.head _)).2), HL7.out.below⟩
set_option maxRecDepth 100000 in
set_option maxHeartbeats 4000000 in
theorem specDefOf_2 (w : World) : Calls Tryz.prog 33 #[.int .i64 128267] w (DefOut 128267 w) := by
 unfold DefOut
 have hd : defD 128267 = ⟨128267, 8, 3, [⟨0, 8, false⟩, ⟨8, 32, false⟩, ⟨40, 16, true⟩, ⟨56, 8, false⟩]⟩ := rfl
 rw [hd]
 dsimp only [List.length_cons, List.length_nil]
 clear hd
 have n0 : ((128267 : Int) == 127250) = false := by decide
 have n1 : ((128267 : Int) == 127488) = false := by decide
 go_enter Tryz.func33, Tryz.ntmps33
 go_wp2_with (first
  | (refine wpList_alloc_h rfl 81 rfl (.agg #[.int .i64 0, .int .i64 0, .int .i64 0, .slice none 0 0]) (by kernel_rfl) #[.int .i64 0, .int .i64 0, .int .i64 0, .slice none 0 0] rfl ?_; intro w1 R1 e1 g1 b1; have HL1 := Lib.hid (show Lg w w1 [(R1, #[.int .i64 0, .int .i64 0, .int .i64 0, .slice none 0 0], 81)] [] from (Lg.first w).box e1 g1 b1); clear g1 b1 e1))
 refine (l08Plain_any 0 8 _).mono ?_
 rintro e w2 ⟨rfl, h⟩
 have HL2 := Lib.hid (show Lg w w2 [(R1, #[.int .i64 0, .int .i64 0, .int .i64 0, .slice none 0 0], 81)] [] from HL1.out.kept h)
 clear h
 go_wp2_with fail
 refine (l08Plain_any 8 32 _).mono ?_
 rintro e w3 ⟨rfl, h⟩
 have HL3 := Lib.hid (show Lg w w3 [(R1, #[.int .i64 0, .int .i64 0, .int .i64 0, .slice none 0 0], 81)] [] from HL2.out.kept h)
 clear h
 go_wp2_with fail
 refine (l08Signed_any 40 16 _).mono ?_
 rintro e w4 ⟨rfl, h⟩
 have HL4 := Lib.hid (show Lg w w4 [(R1, #[.int .i64 0, .int .i64 0, .int .i64 0, .slice none 0 0], 81)] [] from HL3.out.kept h)
 clear h
 go_wp2_with fail
 refine (l08Plain_any 56 8 _).mono ?_
 rintro e w5 ⟨rfl, h⟩
 have HL5 := Lib.hid (show Lg w w5 [(R1, #[.int .i64 0, .int .i64 0, .int .i64 0, .slice none 0 0], 81)] [] from HL4.out.kept h)
 clear h
 obtain ⟨L, eL⟩ : ∃ x, w5.heap.size = x := ⟨_, rfl⟩
 obtain ⟨U, eU⟩ : ∃ U, w5.alloc (.cells #[.int .i64 0, .int .i64 8, .bool false, .int .i64 8, .int .i64 32, .bool false, .int .i64 40, .int .i64 16, .bool true, .int .i64 56, .int .i64 8, .bool false] 147) = U := ⟨_, rfl⟩
 obtain ⟨H, eH⟩ : ∃ x, U.heap.size = x := ⟨_, rfl⟩
 have hbU : Below w5.heap.size w5 U := by rw [← eU]; exact (Below.refl _ _).alloc (Nat.le_refl _) _
 have hnU : RsNew fdL 3 147 L H U (some ⟨L, 0, none⟩) [⟨0, 8, false⟩, ⟨8, 32, false⟩, ⟨40, 16, true⟩, ⟨56, 8, false⟩] := .inr ⟨L, 0, _, rfl, Nat.le_refl _, by rw [← eL, ← eH, ← eU]; simp, by rw [← eL, ← eU]; exact heap_alloc_new _ _, by decide, fun i y hy j v hv => by
   have := flat_at fdL 3 fdL_len [⟨0, 8, false⟩, ⟨8, 32, false⟩, ⟨40, 16, true⟩, ⟨56, 8, false⟩] i y hy j v hv
   simpa [fdL] using this⟩
 have qL_R1 : R1 < L := Nat.lt_of_lt_of_eq (HL5.out.lt (.head _)) eL
 have HL6 := Lib.hid (show Lg w U [(R1, #[.int .i64 0, .int .i64 0, .int .i64 0, .slice none 0 0], 81)] [(L, H, fun W => RsNew fdL 3 147 L H W (some ⟨L, 0, none⟩) [⟨0, 8, false⟩, ⟨8, 32, false⟩, ⟨40, 16, true⟩, ⟨56, 8, false⟩])] from HL5.out.made eL eH hbU hnU.solid)
 clear hbU hnU
 go_wp2_with (first
  | (rw [eU, eL]; refine wpList_put_at rfl 81 (.tmp 2) (.tmp 31) rfl rfl (R1) 0 rfl _ rfl #[.int .i64 128267, .int .i64 8, .int .i64 3, .slice (some ⟨L, 0, none⟩) 4 4] rfl 81 #[.int .i64 0, .int .i64 0, .int .i64 0, .slice none 0 0] (qC11 (some ⟨L, 0, none⟩)) (HL6.out.get (.head _)) (by kernel_rfl) (by kernel_rfl) (by kernel_rfl) (by kernel_rfl) ?_; intro w7 g7 o7; have HL7 := Lib.hid (show Lg w w7 [(R1, (qC11 (some ⟨L, 0, none⟩)), 81)] [(L, H, fun W => RsNew fdL 3 147 L H W (some ⟨L, 0, none⟩) [⟨0, 8, false⟩, ⟨8, 32, false⟩, ⟨40, 16, true⟩, ⟨56, 8, false⟩])] from HL6.out.put 0 rfl g7 o7 (fun _ h => nomatch h) (qCf ⟨.inr qL_R1, (fun _ h => nomatch h)⟩) rfl); clear g7 o7)
  | (refine wpList_put_at rfl 81 (.tmp 2) (.tmp 31) rfl rfl (R1) 0 rfl _ rfl #[.int .i64 128267, .int .i64 8, .int .i64 3, .slice (some ⟨L, 0, none⟩) 4 4] rfl 81 #[.int .i64 0, .int .i64 0, .int .i64 0, .slice none 0 0] (qC11 (some ⟨L, 0, none⟩)) (HL6.out.get (.head _)) (by kernel_rfl) (by kernel_rfl) (by kernel_rfl) (by kernel_rfl) ?_; intro w7 g7 o7; have HL7 := Lib.hid (show Lg w w7 [(R1, (qC11 (some ⟨L, 0, none⟩)), 81)] [(L, H, fun W => RsNew fdL 3 147 L H W (some ⟨L, 0, none⟩) [⟨0, 8, false⟩, ⟨8, 32, false⟩, ⟨40, 16, true⟩, ⟨56, 8, false⟩])] from HL6.out.put 0 rfl g7 o7 (fun _ h => nomatch h) (qCf ⟨.inr qL_R1, (fun _ h => nomatch h)⟩) rfl); clear g7 o7))
 exact bodyPost_ret (results_cell_row (p := 2) (ty := 81) (by kernel_rfl) _ _ (R1) 81 _ (0, 0) _ rfl (HL7.out.get (.head _)) Tryz.underlying81 rfl (by kernel_rfl)) rfl ⟨_, rfl, ((HL7.out.at (.head _)).wide (HL7.out.lo (.head _)) (HL7.out.hi (.head _)).2), HL7.out.below⟩
set_option maxRecDepth 100000 in
set_option maxHeartbeats 4000000 in
theorem specDefOf_3 (w : World) : Calls Tryz.prog 33 #[.int .i64 128275] w (DefOut 128275 w) := by
 unfold DefOut
 have hd : defD 128275 = ⟨128275, 14, 6, [⟨0, 16, false⟩, ⟨16, 32, false⟩, ⟨48, 32, false⟩, ⟨80, 32, false⟩]⟩ := rfl
 rw [hd]
 dsimp only [List.length_cons, List.length_nil]
 clear hd
 have n0 : ((128275 : Int) == 127250) = false := by decide
 have n1 : ((128275 : Int) == 127488) = false := by decide
 have n2 : ((128275 : Int) == 128267) = false := by decide
 go_enter Tryz.func33, Tryz.ntmps33
 go_wp2_with (first
  | (refine wpList_alloc_h rfl 81 rfl (.agg #[.int .i64 0, .int .i64 0, .int .i64 0, .slice none 0 0]) (by kernel_rfl) #[.int .i64 0, .int .i64 0, .int .i64 0, .slice none 0 0] rfl ?_; intro w1 R1 e1 g1 b1; have HL1 := Lib.hid (show Lg w w1 [(R1, #[.int .i64 0, .int .i64 0, .int .i64 0, .slice none 0 0], 81)] [] from (Lg.first w).box e1 g1 b1); clear g1 b1 e1))
 refine (l08Plain_any 0 16 _).mono ?_
 rintro e w2 ⟨rfl, h⟩
 have HL2 := Lib.hid (show Lg w w2 [(R1, #[.int .i64 0, .int .i64 0, .int .i64 0, .slice none 0 0], 81)] [] from HL1.out.kept h)
 clear h
 go_wp2_with fail
 refine (l08Plain_any 16 32 _).mono ?_
 rintro e w3 ⟨rfl, h⟩
 have HL3 := Lib.hid (show Lg w w3 [(R1, #[.int .i64 0, .int .i64 0, .int .i64 0, .slice none 0 0], 81)] [] from HL2.out.kept h)
 clear h
 go_wp2_with fail
 refine (l08Plain_any 48 32 _).mono ?_
 rintro e w4 ⟨rfl, h⟩
 have HL4 := Lib.hid (show Lg w w4 [(R1, #[.int .i64 0, .int .i64 0, .int .i64 0, .slice none 0 0], 81)] [] from HL3.out.kept h)
 clear h
 go_wp2_with fail
 refine (l08Plain_any 80 32 _).mono ?_
 rintro e w5 ⟨rfl, h⟩
 have HL5 := Lib.hid (show Lg w w5 [(R1, #[.int .i64 0, .int .i64 0, .int .i64 0, .slice none 0 0], 81)] [] from HL4.out.kept h)
 clear h
 obtain ⟨L, eL⟩ : ∃ x, w5.heap.size = x := ⟨_, rfl⟩
 obtain ⟨U, eU⟩ : ∃ U, w5.alloc (.cells #[.int .i64 0, .int .i64 16, .bool false, .int .i64 16, .int .i64 32, .bool false, .int .i64 48, .int .i64 32, .bool false, .int .i64 80, .int .i64 32, .bool false] 147) = U := ⟨_, rfl⟩
 obtain ⟨H, eH⟩ : ∃ x, U.heap.size = x := ⟨_, rfl⟩
 have hbU : Below w5.heap.size w5 U := by rw [← eU]; exact (Below.refl _ _).alloc (Nat.le_refl _) _
 have hnU : RsNew fdL 3 147 L H U (some ⟨L, 0, none⟩) [⟨0, 16, false⟩, ⟨16, 32, false⟩, ⟨48, 32, false⟩, ⟨80, 32, false⟩] := .inr ⟨L, 0, _, rfl, Nat.le_refl _, by rw [← eL, ← eH, ← eU]; simp, by rw [← eL, ← eU]; exact heap_alloc_new _ _, by decide, fun i y hy j v hv => by
   have := flat_at fdL 3 fdL_len [⟨0, 16, false⟩, ⟨16, 32, false⟩, ⟨48, 32, false⟩, ⟨80, 32, false⟩] i y hy j v hv
   simpa [fdL] using this⟩
 have qL_R1 : R1 < L := Nat.lt_of_lt_of_eq (HL5.out.lt (.head _)) eL
 have HL6 := Lib.hid (show Lg w U [(R1, #[.int .i64 0, .int .i64 0, .int .i64 0, .slice none 0 0], 81)] [(L, H, fun W => RsNew fdL 3 147 L H W (some ⟨L, 0, none⟩) [⟨0, 16, false⟩, ⟨16, 32, false⟩, ⟨48, 32, false⟩, ⟨80, 32, false⟩])] from HL5.out.made eL eH hbU hnU.solid)
 clear hbU hnU
 go_wp2_with (first
  | (rw [eU, eL]; refine wpList_put_at rfl 81 (.tmp 2) (.tmp 40) rfl rfl (R1) 0 rfl _ rfl #[.int .i64 128275, .int .i64 14, .int .i64 6, .slice (some ⟨L, 0, none⟩) 4 4] rfl 81 #[.int .i64 0, .int .i64 0, .int .i64 0, .slice none 0 0] (qC12 (some ⟨L, 0, none⟩)) (HL6.out.get (.head _)) (by kernel_rfl) (by kernel_rfl) (by kernel_rfl) (by kernel_rfl) ?_; intro w7 g7 o7; have HL7 := Lib.hid (show Lg w w7 [(R1, (qC12 (some ⟨L, 0, none⟩)), 81)] [(L, H, fun W => RsNew fdL 3 147 L H W (some ⟨L, 0, none⟩) [⟨0, 16, false⟩, ⟨16, 32, false⟩, ⟨48, 32, false⟩, ⟨80, 32, false⟩])] from HL6.out.put 0 rfl g7 o7 (fun _ h => nomatch h) (qCf ⟨.inr qL_R1, (fun _ h => nomatch h)⟩) rfl); clear g7 o7)
  | (refine wpList_put_at rfl 81 (.tmp 2) (.tmp 40) rfl rfl (R1) 0 rfl _ rfl #[.int .i64 128275, .int .i64 14, .int .i64 6, .slice (some ⟨L, 0, none⟩) 4 4] rfl 81 #[.int .i64 0, .int .i64 0, .int .i64 0, .slice none 0 0] (qC12 (some ⟨L, 0, none⟩)) (HL6.out.get (.head _)) (by kernel_rfl) (by kernel_rfl) (by kernel_rfl) (by kernel_rfl) ?_; intro w7 g7 o7; have HL7 := Lib.hid (show Lg w w7 [(R1, (qC12 (some ⟨L, 0, none⟩)), 81)] [(L, H, fun W => RsNew fdL 3 147 L H W (some ⟨L, 0, none⟩) [⟨0, 16, false⟩, ⟨16, 32, false⟩, ⟨48, 32, false⟩, ⟨80, 32, false⟩])] from HL6.out.put 0 rfl g7 o7 (fun _ h => nomatch h) (qCf ⟨.inr qL_R1, (fun _ h => nomatch h)⟩) rfl); clear g7 o7))
 exact bodyPost_ret (results_cell_row (p := 2) (ty := 81) (by kernel_rfl) _ _ (R1) 81 _ (0, 0) _ rfl (HL7.out.get (.head _)) Tryz.underlying81 rfl (by kernel_rfl)) rfl ⟨_, rfl, ((HL7.out.at (.head _)).wide (HL7.out.lo (.head _)) (HL7.out.hi (.head _)).2), HL7.out.below⟩
set_option maxRecDepth 100000 in
set_option maxHeartbeats 4000000 in
theorem specDefOf_4 (w : World) : Calls Tryz.prog 33 #[.int .i64 129025] w (DefOut 129025 w) := by
 unfold DefOut
 have hd : defD 129025 = ⟨129025, 8, 2, [⟨0, 32, true⟩, ⟨32, 32, true⟩]⟩ := rfl
 rw [hd]
 dsimp only [List.length_cons, List.length_nil]
 clear hd
 have n0 : ((129025 : Int) == 127250) = false := by decide
 have n1 : ((129025 : Int) == 127488) = false := by decide
 have n2 : ((129025 : Int) == 128267) = false := by decide
 have n3 : ((129025 : Int) == 128275) = false := by decide
 go_enter Tryz.func33, Tryz.ntmps33
 go_wp2_with (first
  | (refine wpList_alloc_h rfl 81 rfl (.agg #[.int .i64 0, .int .i64 0, .int .i64 0, .slice none 0 0]) (by kernel_rfl) #[.int .i64 0, .int .i64 0, .int .i64 0, .slice none 0 0] rfl ?_; intro w1 R1 e1 g1 b1; have HL1 := Lib.hid (show Lg w w1 [(R1, #[.int .i64 0, .int .i64 0, .int .i64 0, .slice none 0 0], 81)] [] from (Lg.first w).box e1 g1 b1); clear g1 b1 e1))
 refine (l08Signed_any 0 32 _).mono ?_
 rintro e w2 ⟨rfl, h⟩
 have HL2 := Lib.hid (show Lg w w2 [(R1, #[.int .i64 0, .int .i64 0, .int .i64 0, .slice none 0 0], 81)] [] from HL1.out.kept h)
 clear h
 go_wp2_with fail
 refine (l08Signed_any 32 32 _).mono ?_
 rintro e w3 ⟨rfl, h⟩
 have HL3 := Lib.hid (show Lg w w3 [(R1, #[.int .i64 0, .int .i64 0, .int .i64 0, .slice none 0 0], 81)] [] from HL2.out.kept h)
 clear h
 obtain ⟨L, eL⟩ : ∃ x, w3.heap.size = x := ⟨_, rfl⟩
 obtain ⟨U, eU⟩ : ∃ U, w3.alloc (.cells #[.int .i64 0, .int .i64 32, .bool true, .int .i64 32, .int .i64 32, .bool true] 147) = U := ⟨_, rfl⟩
 obtain ⟨H, eH⟩ : ∃ x, U.heap.size = x := ⟨_, rfl⟩
 have hbU : Below w3.heap.size w3 U := by rw [← eU]; exact (Below.refl _ _).alloc (Nat.le_refl _) _
 have hnU : RsNew fdL 3 147 L H U (some ⟨L, 0, none⟩) [⟨0, 32, true⟩, ⟨32, 32, true⟩] := .inr ⟨L, 0, _, rfl, Nat.le_refl _, by rw [← eL, ← eH, ← eU]; simp, by rw [← eL, ← eU]; exact heap_alloc_new _ _, by decide, fun i y hy j v hv => by
   have := flat_at fdL 3 fdL_len [⟨0, 32, true⟩, ⟨32, 32, true⟩] i y hy j v hv
   simpa [fdL] using this⟩
 have qL_R1 : R1 < L := Nat.lt_of_lt_of_eq (HL3.out.lt (.head _)) eL
 have HL4 := Lib.hid (show Lg w U [(R1, #[.int .i64 0, .int .i64 0, .int .i64 0, .slice none 0 0], 81)] [(L, H, fun W => RsNew fdL 3 147 L H W (some ⟨L, 0, none⟩) [⟨0, 32, true⟩, ⟨32, 32, true⟩])] from HL3.out.made eL eH hbU hnU.solid)
 clear hbU hnU
 go_wp2_with (first
  | (rw [eU, eL]; refine wpList_put_at rfl 81 (.tmp 2) (.tmp 47) rfl rfl (R1) 0 rfl _ rfl #[.int .i64 129025, .int .i64 8, .int .i64 2, .slice (some ⟨L, 0, none⟩) 2 2] rfl 81 #[.int .i64 0, .int .i64 0, .int .i64 0, .slice none 0 0] (qC13 (some ⟨L, 0, none⟩)) (HL4.out.get (.head _)) (by kernel_rfl) (by kernel_rfl) (by kernel_rfl) (by kernel_rfl) ?_; intro w5 g5 o5; have HL5 := Lib.hid (show Lg w w5 [(R1, (qC13 (some ⟨L, 0, none⟩)), 81)] [(L, H, fun W => RsNew fdL 3 147 L H W (some ⟨L, 0, none⟩) [⟨0, 32, true⟩, ⟨32, 32, true⟩])] from HL4.out.put 0 rfl g5 o5 (fun _ h => nomatch h) (qCf ⟨.inr qL_R1, (fun _ h => nomatch h)⟩) rfl); clear g5 o5)
  | (refine wpList_put_at rfl 81 (.tmp 2) (.tmp 47) rfl rfl (R1) 0 rfl _ rfl #[.int .i64 129025, .int .i64 8, .int .i64 2, .slice (some ⟨L, 0, none⟩) 2 2] rfl 81 #[.int .i64 0, .int .i64 0, .int .i64 0, .slice none 0 0] (qC13 (some ⟨L, 0, none⟩)) (HL4.out.get (.head _)) (by kernel_rfl) (by kernel_rfl) (by kernel_rfl) (by kernel_rfl) ?_; intro w5 g5 o5; have HL5 := Lib.hid (show Lg w w5 [(R1, (qC13 (some ⟨L, 0, none⟩)), 81)] [(L, H, fun W => RsNew fdL 3 147 L H W (some ⟨L, 0, none⟩) [⟨0, 32, true⟩, ⟨32, 32, true⟩])] from HL4.out.put 0 rfl g5 o5 (fun _ h => nomatch h) (qCf ⟨.inr qL_R1, (fun _ h => nomatch h)⟩) rfl); clear g5 o5))
 exact bodyPost_ret (results_cell_row (p := 2) (ty := 81) (by kernel_rfl) _ _ (R1) 81 _ (0, 0) _ rfl (HL5.out.get (.head _)) Tryz.underlying81 rfl (by kernel_rfl)) rfl ⟨_, rfl, ((HL5.out.at (.head _)).wide (HL5.out.lo (.head _)) (HL5.out.hi (.head _)).2), HL5.out.below⟩
set_option maxRecDepth 100000 in
set_option maxHeartbeats 4000000 in
theorem specDefOf_5 (w : World) : Calls Tryz.prog 33 #[.int .i64 130306] w (DefOut 130306 w) := by
 unfold DefOut
 have hd : defD 130306 = ⟨130306, 8, 2, [⟨0, 8, false⟩, ⟨8, 16, false⟩, ⟨24, 16, false⟩, ⟨40, 3, false⟩]⟩ := rfl
 rw [hd]
 dsimp only [List.length_cons, List.length_nil]
 clear hd
 have n0 : ((130306 : Int) == 127250) = false := by decide
 have n1 : ((130306 : Int) == 127488) = false := by decide
 have n2 : ((130306 : Int) == 128267) = false := by decide
 have n3 : ((130306 : Int) == 128275) = false := by decide
 have n4 : ((130306 : Int) == 129025) = false := by decide
 go_enter Tryz.func33, Tryz.ntmps33
 go_wp2_with (first
  | (refine wpList_alloc_h rfl 81 rfl (.agg #[.int .i64 0, .int .i64 0, .int .i64 0, .slice none 0 0]) (by kernel_rfl) #[.int .i64 0, .int .i64 0, .int .i64 0, .slice none 0 0] rfl ?_; intro w1 R1 e1 g1 b1; have HL1 := Lib.hid (show Lg w w1 [(R1, #[.int .i64 0, .int .i64 0, .int .i64 0, .slice none 0 0], 81)] [] from (Lg.first w).box e1 g1 b1); clear g1 b1 e1))
 refine (l08Plain_any 0 8 _).mono ?_
 rintro e w2 ⟨rfl, h⟩
 have HL2 := Lib.hid (show Lg w w2 [(R1, #[.int .i64 0, .int .i64 0, .int .i64 0, .slice none 0 0], 81)] [] from HL1.out.kept h)
 clear h
 go_wp2_with fail
 refine (l08Plain_any 8 16 _).mono ?_
 rintro e w3 ⟨rfl, h⟩
 have HL3 := Lib.hid (show Lg w w3 [(R1, #[.int .i64 0, .int .i64 0, .int .i64 0, .slice none 0 0], 81)] [] from HL2.out.kept h)
 clear h
 go_wp2_with fail
 refine (l08Plain_any 24 16 _).mono ?_
 rintro e w4 ⟨rfl, h⟩
 have HL4 := Lib.hid (show Lg w w4 [(R1, #[.int .i64 0, .int .i64 0, .int .i64 0, .slice none 0 0], 81)] [] from HL3.out.kept h)
 clear h
 go_wp2_with fail
 refine (l08Plain_any 40 3 _).mono ?_
 rintro e w5 ⟨rfl, h⟩
 have HL5 := Lib.hid (show Lg w w5 [(R1, #[.int .i64 0, .int .i64 0, .int .i64 0, .slice none 0 0], 81)] [] from HL4.out.kept h)
 clear h
 obtain ⟨L, eL⟩ : ∃ x, w5.heap.size = x := ⟨_, rfl⟩
 obtain ⟨U, eU⟩ : ∃ U, w5.alloc (.cells #[.int .i64 0, .int .i64 8, .bool false, .int .i64 8, .int .i64 16, .bool false, .int .i64 24, .int .i64 16, .bool false, .int .i64 40, .int .i64 3, .bool false] 147) = U := ⟨_, rfl⟩
 obtain ⟨H, eH⟩ : ∃ x, U.heap.size = x := ⟨_, rfl⟩
 have hbU : Below w5.heap.size w5 U := by rw [← eU]; exact (Below.refl _ _).alloc (Nat.le_refl _) _
 have hnU : RsNew fdL 3 147 L H U (some ⟨L, 0, none⟩) [⟨0, 8, false⟩, ⟨8, 16, false⟩, ⟨24, 16, false⟩, ⟨40, 3, false⟩] := .inr ⟨L, 0, _, rfl, Nat.le_refl _, by rw [← eL, ← eH, ← eU]; simp, by rw [← eL, ← eU]; exact heap_alloc_new _ _, by decide, fun i y hy j v hv => by
   have := flat_at fdL 3 fdL_len [⟨0, 8, false⟩, ⟨8, 16, false⟩, ⟨24, 16, false⟩, ⟨40, 3, false⟩] i y hy j v hv
   simpa [fdL] using this⟩
 have qL_R1 : R1 < L := Nat.lt_of_lt_of_eq (HL5.out.lt (.head _)) eL
 have HL6 := Lib.hid (show Lg w U [(R1, #[.int .i64 0, .int .i64 0, .int .i64 0, .slice none 0 0], 81)] [(L, H, fun W => RsNew fdL 3 147 L H W (some ⟨L, 0, none⟩) [⟨0, 8, false⟩, ⟨8, 16, false⟩, ⟨24, 16, false⟩, ⟨40, 3, false⟩])] from HL5.out.made eL eH hbU hnU.solid)
 clear hbU hnU
 go_wp2_with (first
  | (rw [eU, eL]; refine wpList_put_at rfl 81 (.tmp 2) (.tmp 56) rfl rfl (R1) 0 rfl _ rfl #[.int .i64 130306, .int .i64 8, .int .i64 2, .slice (some ⟨L, 0, none⟩) 4 4] rfl 81 #[.int .i64 0, .int .i64 0, .int .i64 0, .slice none 0 0] (qC14 (some ⟨L, 0, none⟩)) (HL6.out.get (.head _)) (by kernel_rfl) (by kernel_rfl) (by kernel_rfl) (by kernel_rfl) ?_; intro w7 g7 o7; have HL7 := Lib.hid (show Lg w w7 [(R1, (qC14 (some ⟨L, 0, none⟩)), 81)] [(L, H, fun W => RsNew fdL 3 147 L H W (some ⟨L, 0, none⟩) [⟨0, 8, false⟩, ⟨8, 16, false⟩, ⟨24, 16, false⟩, ⟨40, 3, false⟩])] from HL6.out.put 0 rfl g7 o7 (fun _ h => nomatch h) (qCf ⟨.inr qL_R1, (fun _ h => nomatch h)⟩) rfl); clear g7 o7)
  | (refine wpList_put_at rfl 81 (.tmp 2) (.tmp 56) rfl rfl (R1) 0 rfl _ rfl #[.int .i64 130306, .int .i64 8, .int .i64 2, .slice (some ⟨L, 0, none⟩) 4 4] rfl 81 #[.int .i64 0, .int .i64 0, .int .i64 0, .slice none 0 0] (qC14 (some ⟨L, 0, none⟩)) (HL6.out.get (.head _)) (by kernel_rfl) (by kernel_rfl) (by kernel_rfl) (by kernel_rfl) ?_; intro w7 g7 o7; have HL7 := Lib.hid (show Lg w w7 [(R1, (qC14 (some ⟨L, 0, none⟩)), 81)] [(L, H, fun W => RsNew fdL 3 147 L H W (some ⟨L, 0, none⟩) [⟨0, 8, false⟩, ⟨8, 16, false⟩, ⟨24, 16, false⟩, ⟨40, 3, false⟩])] from HL6.out.put 0 rfl g7 o7 (fun _ h => nomatch h) (qCf ⟨.inr qL_R1, (fun _ h => nomatch h)⟩) rfl); clear g7 o7))
 exact bodyPost_ret (results_cell_row (p := 2) (ty := 81) (by kernel_rfl) _ _ (R1) 81 _ (0, 0) _ rfl (HL7.out.get (.head _)) Tryz.underlying81 rfl (by kernel_rfl)) rfl ⟨_, rfl, ((HL7.out.at (.head _)).wide (HL7.out.lo (.head _)) (HL7.out.hi (.head _)).2), HL7.out.below⟩
set_option maxRecDepth 100000 in
set_option maxHeartbeats 4000000 in
theorem specDefOf_no (p : Int) (w : World) (h : ixD p = 6) : Calls Tryz.prog 33 #[.int .i64 p] w (DefOut p w) := by
 unfold DefOut
 have hd : defD p = ⟨0, 0, 0, []⟩ := by unfold defD; rw [h]; rfl
 rw [hd]
 have n0 : (p == 127250) = false := by
  have : p ≠ 127250 := fun e => by rw [e] at h; exact absurd h (by decide)
  simpa using this
 have n1 : (p == 127488) = false := by
  have : p ≠ 127488 := fun e => by rw [e] at h; exact absurd h (by decide)
  simpa using this
 have n2 : (p == 128267) = false := by
  have : p ≠ 128267 := fun e => by rw [e] at h; exact absurd h (by decide)
  simpa using this
 have n3 : (p == 128275) = false := by
  have : p ≠ 128275 := fun e => by rw [e] at h; exact absurd h (by decide)
  simpa using this
 have n4 : (p == 129025) = false := by
  have : p ≠ 129025 := fun e => by rw [e] at h; exact absurd h (by decide)
  simpa using this
 have n5 : (p == 130306) = false := by
  have : p ≠ 130306 := fun e => by rw [e] at h; exact absurd h (by decide)
  simpa using this
 clear hd h
 go_enter Tryz.func33, Tryz.ntmps33
 go_wp2
 exact bodyPost_ret (v := .agg #[.int .i64 0, .int .i64 0, .int .i64 0, .slice none 0 0]) (by simp [results, Tryz.results33, go_sem]) rfl ⟨none, rfl, .inl rfl, (Below.refl _ _).alloc (Nat.le_refl _) _⟩
theorem specDefOf_any (p : Int) (w : World) : Calls Tryz.prog 33 #[.int .i64 p] w (DefOut p w) := by
 by_cases h0 : p = 127250
 ·subst h0; exact specDefOf_0 w
 by_cases h1 : p = 127488
 ·subst h1; exact specDefOf_1 w
 by_cases h2 : p = 128267
 ·subst h2; exact specDefOf_2 w
 by_cases h3 : p = 128275
 ·subst h3; exact specDefOf_3 w
 by_cases h4 : p = 129025
 ·subst h4; exact specDefOf_4 w
 by_cases h5 : p = 130306
 ·subst h5; exact specDefOf_5 w
 exact specDefOf_no p w (by unfold ixD; rw [if_neg h0, if_neg h1, if_neg h2, if_neg h3, if_neg h4, if_neg h5])
end Go.Proofs.YtioldepgoodipaaGreat
namespace Go.Proofs.YtioldepgoodipaaGreat
open Go.RowKit
set_option linter.unusedVariables false

structure Hd where
 s : Int
 n : Int
 g : Int
def hdL (x : Hd) : List Value := [.int .i64 x.s, .int .i64 x.n, .int .i64 x.g]
def hdAt (l : List Hd) (i : Nat) : Hd := l[i]?.getD ⟨0, 0, 0⟩
def markHd (q : Nat) : Hd := ⟨((q : Nat) : Int), ((q + 1 : Nat) : Int), ((q + 2 : Nat) : Int)⟩
def marksHd (k m : Nat) : List Hd := (List.range m).map fun i => markHd (k + 3 * i)
end Go.Proofs.YtioldepgoodipaaGreat
namespace Go.Proofs.YtioldepgoodipaaGreat
open Go.RowKit
set_option linter.unusedVariables false

def allR (f : Nat → Bool) (n : Nat) : Bool := (List.range n).all f
theorem allR_yes {f : Nat → Bool} {n : Nat} (h : ∀ i, i < n → f i = true) : allR f n = true := by
 unfold allR
 rw [List.all_eq_true]
 intro i hi
 exact h i (by simpa using hi)
theorem allR_of {f : Nat → Bool} {n : Nat} (h : allR f n = true) : ∀ i, i < n → f i = true := by
 unfold allR at h
 rw [List.all_eq_true] at h
 intro i hi
 exact h i (by simpa using hi)
theorem allR_no {f : Nat → Bool} {n i : Nat} (hi : i < n) (h : f i = false) : allR f n = false := by
 cases hq : allR f n with
 | false => rfl
 | true => rw [allR_of hq i hi] at h; cases h

def rankAt (r : List Int) (i : Nat) : Bool := inB 0 251 (numAt r i) && !(decide (numAt r i ∈ r.take i))
def ranksB (r : List Int) : Bool := decide (r.length ≤ 5) && allR (rankAt r) r.length
def heardAt (r : List Int) (h : List Hd) (i : Nat) : Bool :=
 decide ((hdAt h i).s ∈ r) && (inB (-2147483648) 2147483647 (hdAt h i).n && (inB 0 1000000 (hdAt h i).g && (decide (i = 0) || decide ((hdAt h (i - 1)).s < (hdAt h i).s))))
def heardB (r : List Int) (h : List Hd) : Bool := allR (heardAt r h) h.length
def pkB (r : List Int) (h : List Hd) : Bool := ranksB r && heardB r h
def hdS (h : List Hd) : List Int := h.map (·.s)
def putH (h : List Hd) (s n : Int) : List Hd :=
 h.take (cntI (hdS h) s) ++ ⟨s, n, 0⟩ :: h.drop (if (hdS h)[cntI (hdS h) s]? = some s then cntI (hdS h) s + 1 else cntI (hdS h) s)
def mayB (r : List Int) (h : List Hd) (s n : Int) : Bool := pkB r h && (decide (s ∈ r) && inB (-2147483648) 2147483647 n)
def hearH (r : List Int) (h : List Hd) (s n : Int) : List Hd := if mayB r h s n = true then putH h s n else h
def tickH (h : List Hd) : List Hd := h.map fun x => ⟨x.s, x.n, if x.g + 1 < 1000000 then x.g + 1 else 1000000⟩
def pickL (h : List Hd) (w : Int) : List Int → Int × Int × Int
 | [] => (0, 0, 6)
 | s :: r => match h.find? (fun x => x.s == s && decide (x.g ≤ w)) with
  | some x => (x.s, x.n, 0)
  | none => pickL h w r
def pickV (r : List Int) (h : List Hd) (w : Int) : Int × Int × Int := if (pkB r h && inB 0 1000000 w) = true then pickL h w r else (0, 0, 1)
end Go.Proofs.YtioldepgoodipaaGreat
