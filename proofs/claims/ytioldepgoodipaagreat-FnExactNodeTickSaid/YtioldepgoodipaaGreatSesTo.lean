/- The laws' own szSessionS, toSessionS and eqSessionS: the size, a copy in new memory, whether two are alike. Nothing that was there is written. -/
import Derived.Test.YtioldepgoodipaaGreatTab
import Derived.Deep.RegionHeld3
namespace Go.Proofs.YtioldepgoodipaaGreat
open Go.RowKit
set_option linter.unusedVariables false

/-- What szSessionS leaves: -1 once it is below 0. -/
def szSe : List Se → Int → Int
  | [], m => m
  | x :: l, m => if m - x.dt.size < 0 then -1 else szSe l (m - x.dt.size)
set_option maxRecDepth 100000 in
theorem szSession_any (x : Se) (m : Int) (w : World) (h0 : 0 ≤ m) (h1 : m ≤ 1048576) (hx : x.dt.size ≤ maxLen) :
    Calls Tryz.prog 76 #[.agg (seL x).toArray, .int .i64 m] w fun e w' => e = .returned (.int .i64 (if m - x.dt.size < 0 then -1 else m - x.dt.size)) ∧ Below w.heap.size w w' := by
  obtain ⟨src, pgn, sq, nx, sz, dt, ag⟩ := x
  unfold seL
  dsimp only at *
  unfold maxLen at hx
  have hw : IntKind.i64.wrap (m - (dt.size : Int)) = m - dt.size := IntWalk.i64_in _ (by omega)
  by_cases hn : m - (dt.size : Int) < 0
  · rw [if_pos hn]
    have hd : decide (m - (dt.size : Int) < 0) = true := decide_eq_true hn
    clear hn
    go_enter Tryz.func76, Tryz.ntmps76
    go_wp2
    go_ret
    exact ⟨rfl, (Below.refl _ _).alloc (Nat.le_refl _) _⟩
  · rw [if_neg hn]
    have hd : decide (m - (dt.size : Int) < 0) = false := decide_eq_false hn
    clear hn
    go_enter Tryz.func76, Tryz.ntmps76
    go_wp2
    go_ret
    exact ⟨rfl, (Below.refl _ _).alloc (Nat.le_refl _) _⟩
set_option maxRecDepth 100000 in
set_option maxHeartbeats 1000000 in
theorem szSessionS_any (a : Option Addr) (cap : Nat) (l : List Se) (w : World) (h : RsIn seL 7 w a l) (hok : SesOk l) (hlen : l.length ≤ maxLen) :
    Calls Tryz.prog 27 #[.slice a l.length cap, .int .i64 1048576] w fun e w' => ∃ m : Int, e = .returned (.int .i64 m) ∧ m ≤ 1048576 ∧ (0 ≤ m → l.length ≤ 1048576 ∧ ∀ i, i < l.length → (seAt l i).dt.size ≤ 1048576) ∧ Below w.heap.size w w' := by
  unfold maxLen at hlen
  by_cases hbig : 1048576 < l.length
  · have hd : decide ((1048576 : Int) - (l.length : Int) < 0) = true := decide_eq_true (by omega)
    have hw : IntKind.i64.wrap (1048576 - (l.length : Int)) = 1048576 - l.length := IntWalk.i64_in _ (by omega)
    go_enter Tryz.func27, Tryz.ntmps27
    go_wp2_with fail
    go_ret
    exact ⟨-1, rfl, by omega, fun q => absurd q (by omega), Below.refl _ _⟩
  · have hd : decide ((1048576 : Int) - (l.length : Int) < 0) = false := decide_eq_false (by omega)
    have hw : IntKind.i64.wrap (1048576 - (l.length : Int)) = 1048576 - l.length := IntWalk.i64_in _ (by omega)
    obtain ⟨M, hM⟩ : ∃ M : Int, (1048576 : Int) - (l.length : Int) = M := ⟨_, rfl⟩
    rw [hM] at hd hw
    have hM1 : 0 ≤ M ∧ M ≤ 1048576 := by omega
    have HI := Lib.hid h
    have HK := Lib.hid hok
    clear h hok
    obtain ⟨N, hN⟩ : ∃ N, l.length = N := ⟨_, rfl⟩
    have HN := Lib.hid hN
    rw [hN] at hbig hM ⊢
    clear hN hlen
    go_enter Tryz.func27, Tryz.ntmps27
    go_wp2_with fail
    go_loopw [1, 5] (fun u i wr => ∃ (k : Nat) (m : Int), i = .int .i64 (k : Int) ∧ u = .int .i64 m ∧ k ≤ N ∧ 0 ≤ m ∧ m ≤ 1048576 ∧ (∀ i, i < k → (seAt l i).dt.size ≤ 1048576) ∧ Below w.heap.size w wr) (fun _ i _ => N - (intOf i).toNat)
    case atStart => exact ⟨0, M, rfl, rfl, by omega, hM1.1, hM1.2, fun i hi => absurd hi (by omega), Below.refl _ _⟩
    case round =>
      obtain ⟨k, m, rfl, rfl, hk, hm0, hm1, hall, hb⟩ := hrel
      have HA := Lib.hid hall
      clear hall
      by_cases hkn : k < N
      · have hkl : k < l.length := by have := HN.out; omega
        obtain ⟨b, o, rfl, hlt, hc⟩ := HI.out.at (by omega)
        have HCs := Lib.hid (fun j v hv => (hb.cell (p := ⟨b, _, none⟩) hlt).trans (hc k _ (seAt_some hkl) j v hv))
        have hg := (seAt_ok HK.out hkl).2.2.2.2.2.1
        have hbs := hb.size
        have hi1 : (0 : Int) ≤ (k : Int) := by omega
        have hi2 : (k : Int) < (N : Int) := by omega
        have HG := Lib.hid hg
        have HA2 := Lib.hid (show (seAt l k).dt.size ≤ 1048576 → ∀ i, i < k + 1 → (seAt l i).dt.size ≤ 1048576 from fun h i hi => by
          rcases Nat.lt_or_ge i k with h' | h'
          · exact HA.out i h'
          · rw [show i = k by omega]; exact h)
        clear hc hg HA
        generalize seAt l k = x at *
        have HC := fun W => Lib.hid (szSession_any x m W hm0 hm1 HG.out)
        by_cases hneg : m - x.dt.size < 0
        · rw [if_pos hneg] at HC
          have e0 : decide ((-1 : Int) < 0) = true := by decide
          go_wp2_with (refine wpList_load_cells rfl 135 (.tmp 20) rfl b (o + k * 7) rfl (seL x) HCs.out _ Tryz.underlying135 rfl (by kernel_rfl) ?_)
          refine (HC _).out.mono ?_
          rintro e w1 ⟨rfl, h1⟩
          go_wp2_with fail
          go_ret
          exact ⟨-1, rfl, by omega, fun q => absurd q (by omega), hb.trans (h1.mono hbs)⟩
        · rw [if_neg hneg] at HC
          have hs := HA2.out (by omega)
          have HA3 := Lib.hid hs
          clear hs HA2
          obtain ⟨m', hm'⟩ : ∃ m' : Int, m - x.dt.size = m' := ⟨_, rfl⟩
          rw [hm'] at HC
          have hm2 : 0 ≤ m' ∧ m' ≤ 1048576 := by omega
          clear hm' hneg
          have e0 : decide (m' < 0) = false := decide_eq_false (by omega)
          go_wp2_with (refine wpList_load_cells rfl 135 (.tmp 20) rfl b (o + k * 7) rfl (seL x) HCs.out _ Tryz.underlying135 rfl (by kernel_rfl) ?_)
          refine (HC _).out.mono ?_
          rintro e w1 ⟨rfl, h1⟩
          go_wp2_with fail
          go_roundw
          case rel => exact ⟨k + 1, m', by go_num, rfl, by omega, hm2.1, hm2.2, HA3.out, hb.trans (h1.mono hbs)⟩
          case measure => simp [intOf]; omega
      · have HA2 := Lib.hid (show ∀ i, i < N → (seAt l i).dt.size ≤ 1048576 from fun i hi => HA.out i (by omega))
        clear HA
        go_wp2_with fail
        go_ret
        exact ⟨m, rfl, hm1, fun _ => ⟨by omega, HA2.out⟩, hb⟩
set_option maxRecDepth 100000 in
set_option maxHeartbeats 4000000 in
theorem toSession_any (x : Se) (w : World) :
    Calls Tryz.prog 95 #[.agg (seL x).toArray] w fun e w' => e = .returned (.agg (seL x).toArray) ∧ Below w.heap.size w w' := by
  obtain ⟨src, pgn, sq, nx, sz, dt, ag⟩ := x
  unfold seL
  dsimp only
  go_enter Tryz.func95, Tryz.ntmps95
  go_wp2_with (first
    | (refine wpList_box_h rfl 135 (.tmp 0) rfl #[.int .i64 src, .int .i64 pgn, .int .i64 sq, .int .i64 nx, .int .i64 sz, .string dt, .int .i64 ag] rfl ?_; intro w1 R1 e1 g1 b1; have HL1 := Lib.hid (show Lg w w1 [(R1, #[.int .i64 src, .int .i64 pgn, .int .i64 sq, .int .i64 nx, .int .i64 sz, .string dt, .int .i64 ag], 135)] [] from (Lg.first w).box e1 g1 b1); clear g1 b1 e1)
    | (refine wpList_alloc_h rfl 159 rfl (.agg #[.int .i64 0, .int .i64 0, .int .i64 0, .int .i64 0, .int .i64 0, .string ByteArray.empty, .int .i64 0]) (by kernel_rfl) #[.int .i64 0, .int .i64 0, .int .i64 0, .int .i64 0, .int .i64 0, .string ByteArray.empty, .int .i64 0] rfl ?_; intro w2 R2 e2 g2 b2; have qR2_R1 : R1 < R2 := Nat.lt_of_lt_of_eq (HL1.out.lt (.head _)) e2; have HL2 := Lib.hid (show Lg w w2 [(R2, #[.int .i64 0, .int .i64 0, .int .i64 0, .int .i64 0, .int .i64 0, .string ByteArray.empty, .int .i64 0], 159), (R1, #[.int .i64 src, .int .i64 pgn, .int .i64 sq, .int .i64 nx, .int .i64 sz, .string dt, .int .i64 ag], 135)] [] from HL1.out.box e2 g2 b2); clear g2 b2 e2)
    | (refine wpList_alloc_h rfl 159 rfl (.agg #[.int .i64 0, .int .i64 0, .int .i64 0, .int .i64 0, .int .i64 0, .string ByteArray.empty, .int .i64 0]) (by kernel_rfl) #[.int .i64 0, .int .i64 0, .int .i64 0, .int .i64 0, .int .i64 0, .string ByteArray.empty, .int .i64 0] rfl ?_; intro w3 R3 e3 g3 b3; have qR3_R2 : R2 < R3 := Nat.lt_of_lt_of_eq (HL2.out.lt (.head _)) e3; have qR3_R1 : R1 < R3 := Nat.lt_of_lt_of_eq (HL2.out.lt (.tail _ (.head _))) e3; have HL3 := Lib.hid (show Lg w w3 [(R3, #[.int .i64 0, .int .i64 0, .int .i64 0, .int .i64 0, .int .i64 0, .string ByteArray.empty, .int .i64 0], 159), (R2, #[.int .i64 0, .int .i64 0, .int .i64 0, .int .i64 0, .int .i64 0, .string ByteArray.empty, .int .i64 0], 159), (R1, #[.int .i64 src, .int .i64 pgn, .int .i64 sq, .int .i64 nx, .int .i64 sz, .string dt, .int .i64 ag], 135)] [] from HL2.out.box e3 g3 b3); clear g3 b3 e3)
    | (refine wpList_load_one rfl 2 (.tmp 4) rfl (R1) 0 rfl 135 #[.int .i64 src, .int .i64 pgn, .int .i64 sq, .int .i64 nx, .int .i64 sz, .string dt, .int .i64 ag] (0, 0) (HL3.out.get (.tail _ (.tail _ (.head _)))) (.int .i64 src) rfl _ Tryz.underlying2 rfl (by kernel_rfl) ?_)
    | (refine wpList_put_at rfl 2 (.tmp 6) (.tmp 5) rfl rfl (R3) 0 rfl (.int .i64 src) rfl #[.int .i64 src] rfl 159 #[.int .i64 0, .int .i64 0, .int .i64 0, .int .i64 0, .int .i64 0, .string ByteArray.empty, .int .i64 0] #[.int .i64 src, .int .i64 0, .int .i64 0, .int .i64 0, .int .i64 0, .string ByteArray.empty, .int .i64 0] (HL3.out.get (.head _)) (by kernel_rfl) (by kernel_rfl) (by kernel_rfl) (by kernel_rfl) ?_; intro w4 g4 o4; have HL4 := Lib.hid (show Lg w w4 [(R3, #[.int .i64 src, .int .i64 0, .int .i64 0, .int .i64 0, .int .i64 0, .string ByteArray.empty, .int .i64 0], 159), (R2, #[.int .i64 0, .int .i64 0, .int .i64 0, .int .i64 0, .int .i64 0, .string ByteArray.empty, .int .i64 0], 159), (R1, #[.int .i64 src, .int .i64 pgn, .int .i64 sq, .int .i64 nx, .int .i64 sz, .string dt, .int .i64 ag], 135)] [] from HL3.out.put 0 rfl g4 o4 (List.forall_mem_cons.2 ⟨Nat.ne_of_lt qR3_R2, (List.forall_mem_cons.2 ⟨Nat.ne_of_lt qR3_R1, (fun _ h => nomatch h)⟩)⟩) (fun _ h => nomatch h) rfl); clear g4 o4)
    | (refine wpList_load_one rfl 2 (.tmp 7) rfl (R1) 1 rfl 135 #[.int .i64 src, .int .i64 pgn, .int .i64 sq, .int .i64 nx, .int .i64 sz, .string dt, .int .i64 ag] (0, 0) (HL4.out.get (.tail _ (.tail _ (.head _)))) (.int .i64 pgn) rfl _ Tryz.underlying2 rfl (by kernel_rfl) ?_)
    | (refine wpList_put_at rfl 2 (.tmp 9) (.tmp 8) rfl rfl (R3) 1 rfl (.int .i64 pgn) rfl #[.int .i64 pgn] rfl 159 #[.int .i64 src, .int .i64 0, .int .i64 0, .int .i64 0, .int .i64 0, .string ByteArray.empty, .int .i64 0] #[.int .i64 src, .int .i64 pgn, .int .i64 0, .int .i64 0, .int .i64 0, .string ByteArray.empty, .int .i64 0] (HL4.out.get (.head _)) (by kernel_rfl) (by kernel_rfl) (by kernel_rfl) (by kernel_rfl) ?_; intro w5 g5 o5; have HL5 := Lib.hid (show Lg w w5 [(R3, #[.int .i64 src, .int .i64 pgn, .int .i64 0, .int .i64 0, .int .i64 0, .string ByteArray.empty, .int .i64 0], 159), (R2, #[.int .i64 0, .int .i64 0, .int .i64 0, .int .i64 0, .int .i64 0, .string ByteArray.empty, .int .i64 0], 159), (R1, #[.int .i64 src, .int .i64 pgn, .int .i64 sq, .int .i64 nx, .int .i64 sz, .string dt, .int .i64 ag], 135)] [] from HL4.out.put 0 rfl g5 o5 (List.forall_mem_cons.2 ⟨Nat.ne_of_lt qR3_R2, (List.forall_mem_cons.2 ⟨Nat.ne_of_lt qR3_R1, (fun _ h => nomatch h)⟩)⟩) (fun _ h => nomatch h) rfl); clear g5 o5)
    | (refine wpList_load_one rfl 2 (.tmp 10) rfl (R1) 2 rfl 135 #[.int .i64 src, .int .i64 pgn, .int .i64 sq, .int .i64 nx, .int .i64 sz, .string dt, .int .i64 ag] (0, 0) (HL5.out.get (.tail _ (.tail _ (.head _)))) (.int .i64 sq) rfl _ Tryz.underlying2 rfl (by kernel_rfl) ?_)
    | (refine wpList_put_at rfl 2 (.tmp 12) (.tmp 11) rfl rfl (R3) 2 rfl (.int .i64 sq) rfl #[.int .i64 sq] rfl 159 #[.int .i64 src, .int .i64 pgn, .int .i64 0, .int .i64 0, .int .i64 0, .string ByteArray.empty, .int .i64 0] #[.int .i64 src, .int .i64 pgn, .int .i64 sq, .int .i64 0, .int .i64 0, .string ByteArray.empty, .int .i64 0] (HL5.out.get (.head _)) (by kernel_rfl) (by kernel_rfl) (by kernel_rfl) (by kernel_rfl) ?_; intro w6 g6 o6; have HL6 := Lib.hid (show Lg w w6 [(R3, #[.int .i64 src, .int .i64 pgn, .int .i64 sq, .int .i64 0, .int .i64 0, .string ByteArray.empty, .int .i64 0], 159), (R2, #[.int .i64 0, .int .i64 0, .int .i64 0, .int .i64 0, .int .i64 0, .string ByteArray.empty, .int .i64 0], 159), (R1, #[.int .i64 src, .int .i64 pgn, .int .i64 sq, .int .i64 nx, .int .i64 sz, .string dt, .int .i64 ag], 135)] [] from HL5.out.put 0 rfl g6 o6 (List.forall_mem_cons.2 ⟨Nat.ne_of_lt qR3_R2, (List.forall_mem_cons.2 ⟨Nat.ne_of_lt qR3_R1, (fun _ h => nomatch h)⟩)⟩) (fun _ h => nomatch h) rfl); clear g6 o6)
    | (refine wpList_load_one rfl 2 (.tmp 13) rfl (R1) 3 rfl 135 #[.int .i64 src, .int .i64 pgn, .int .i64 sq, .int .i64 nx, .int .i64 sz, .string dt, .int .i64 ag] (0, 0) (HL6.out.get (.tail _ (.tail _ (.head _)))) (.int .i64 nx) rfl _ Tryz.underlying2 rfl (by kernel_rfl) ?_)
    | (refine wpList_put_at rfl 2 (.tmp 15) (.tmp 14) rfl rfl (R3) 3 rfl (.int .i64 nx) rfl #[.int .i64 nx] rfl 159 #[.int .i64 src, .int .i64 pgn, .int .i64 sq, .int .i64 0, .int .i64 0, .string ByteArray.empty, .int .i64 0] #[.int .i64 src, .int .i64 pgn, .int .i64 sq, .int .i64 nx, .int .i64 0, .string ByteArray.empty, .int .i64 0] (HL6.out.get (.head _)) (by kernel_rfl) (by kernel_rfl) (by kernel_rfl) (by kernel_rfl) ?_; intro w7 g7 o7; have HL7 := Lib.hid (show Lg w w7 [(R3, #[.int .i64 src, .int .i64 pgn, .int .i64 sq, .int .i64 nx, .int .i64 0, .string ByteArray.empty, .int .i64 0], 159), (R2, #[.int .i64 0, .int .i64 0, .int .i64 0, .int .i64 0, .int .i64 0, .string ByteArray.empty, .int .i64 0], 159), (R1, #[.int .i64 src, .int .i64 pgn, .int .i64 sq, .int .i64 nx, .int .i64 sz, .string dt, .int .i64 ag], 135)] [] from HL6.out.put 0 rfl g7 o7 (List.forall_mem_cons.2 ⟨Nat.ne_of_lt qR3_R2, (List.forall_mem_cons.2 ⟨Nat.ne_of_lt qR3_R1, (fun _ h => nomatch h)⟩)⟩) (fun _ h => nomatch h) rfl); clear g7 o7)
    | (refine wpList_load_one rfl 2 (.tmp 16) rfl (R1) 4 rfl 135 #[.int .i64 src, .int .i64 pgn, .int .i64 sq, .int .i64 nx, .int .i64 sz, .string dt, .int .i64 ag] (0, 0) (HL7.out.get (.tail _ (.tail _ (.head _)))) (.int .i64 sz) rfl _ Tryz.underlying2 rfl (by kernel_rfl) ?_)
    | (refine wpList_put_at rfl 2 (.tmp 18) (.tmp 17) rfl rfl (R3) 4 rfl (.int .i64 sz) rfl #[.int .i64 sz] rfl 159 #[.int .i64 src, .int .i64 pgn, .int .i64 sq, .int .i64 nx, .int .i64 0, .string ByteArray.empty, .int .i64 0] #[.int .i64 src, .int .i64 pgn, .int .i64 sq, .int .i64 nx, .int .i64 sz, .string ByteArray.empty, .int .i64 0] (HL7.out.get (.head _)) (by kernel_rfl) (by kernel_rfl) (by kernel_rfl) (by kernel_rfl) ?_; intro w8 g8 o8; have HL8 := Lib.hid (show Lg w w8 [(R3, #[.int .i64 src, .int .i64 pgn, .int .i64 sq, .int .i64 nx, .int .i64 sz, .string ByteArray.empty, .int .i64 0], 159), (R2, #[.int .i64 0, .int .i64 0, .int .i64 0, .int .i64 0, .int .i64 0, .string ByteArray.empty, .int .i64 0], 159), (R1, #[.int .i64 src, .int .i64 pgn, .int .i64 sq, .int .i64 nx, .int .i64 sz, .string dt, .int .i64 ag], 135)] [] from HL7.out.put 0 rfl g8 o8 (List.forall_mem_cons.2 ⟨Nat.ne_of_lt qR3_R2, (List.forall_mem_cons.2 ⟨Nat.ne_of_lt qR3_R1, (fun _ h => nomatch h)⟩)⟩) (fun _ h => nomatch h) rfl); clear g8 o8)
    | (refine wpList_load_one rfl 9 (.tmp 19) rfl (R1) 5 rfl 135 #[.int .i64 src, .int .i64 pgn, .int .i64 sq, .int .i64 nx, .int .i64 sz, .string dt, .int .i64 ag] (0, 0) (HL8.out.get (.tail _ (.tail _ (.head _)))) (.string dt) rfl _ Tryz.underlying9 rfl (by kernel_rfl) ?_)
    | (refine wpList_put_at rfl 9 (.tmp 21) (.tmp 20) rfl rfl (R3) 5 rfl (.string dt) rfl #[.string dt] rfl 159 #[.int .i64 src, .int .i64 pgn, .int .i64 sq, .int .i64 nx, .int .i64 sz, .string ByteArray.empty, .int .i64 0] #[.int .i64 src, .int .i64 pgn, .int .i64 sq, .int .i64 nx, .int .i64 sz, .string dt, .int .i64 0] (HL8.out.get (.head _)) (by kernel_rfl) (by kernel_rfl) (by kernel_rfl) (by kernel_rfl) ?_; intro w9 g9 o9; have HL9 := Lib.hid (show Lg w w9 [(R3, #[.int .i64 src, .int .i64 pgn, .int .i64 sq, .int .i64 nx, .int .i64 sz, .string dt, .int .i64 0], 159), (R2, #[.int .i64 0, .int .i64 0, .int .i64 0, .int .i64 0, .int .i64 0, .string ByteArray.empty, .int .i64 0], 159), (R1, #[.int .i64 src, .int .i64 pgn, .int .i64 sq, .int .i64 nx, .int .i64 sz, .string dt, .int .i64 ag], 135)] [] from HL8.out.put 0 rfl g9 o9 (List.forall_mem_cons.2 ⟨Nat.ne_of_lt qR3_R2, (List.forall_mem_cons.2 ⟨Nat.ne_of_lt qR3_R1, (fun _ h => nomatch h)⟩)⟩) (fun _ h => nomatch h) rfl); clear g9 o9)
    | (refine wpList_load_one rfl 2 (.tmp 22) rfl (R1) 6 rfl 135 #[.int .i64 src, .int .i64 pgn, .int .i64 sq, .int .i64 nx, .int .i64 sz, .string dt, .int .i64 ag] (0, 0) (HL9.out.get (.tail _ (.tail _ (.head _)))) (.int .i64 ag) rfl _ Tryz.underlying2 rfl (by kernel_rfl) ?_)
    | (refine wpList_put_at rfl 2 (.tmp 24) (.tmp 23) rfl rfl (R3) 6 rfl (.int .i64 ag) rfl #[.int .i64 ag] rfl 159 #[.int .i64 src, .int .i64 pgn, .int .i64 sq, .int .i64 nx, .int .i64 sz, .string dt, .int .i64 0] #[.int .i64 src, .int .i64 pgn, .int .i64 sq, .int .i64 nx, .int .i64 sz, .string dt, .int .i64 ag] (HL9.out.get (.head _)) (by kernel_rfl) (by kernel_rfl) (by kernel_rfl) (by kernel_rfl) ?_; intro w10 g10 o10; have HL10 := Lib.hid (show Lg w w10 [(R3, #[.int .i64 src, .int .i64 pgn, .int .i64 sq, .int .i64 nx, .int .i64 sz, .string dt, .int .i64 ag], 159), (R2, #[.int .i64 0, .int .i64 0, .int .i64 0, .int .i64 0, .int .i64 0, .string ByteArray.empty, .int .i64 0], 159), (R1, #[.int .i64 src, .int .i64 pgn, .int .i64 sq, .int .i64 nx, .int .i64 sz, .string dt, .int .i64 ag], 135)] [] from HL9.out.put 0 rfl g10 o10 (List.forall_mem_cons.2 ⟨Nat.ne_of_lt qR3_R2, (List.forall_mem_cons.2 ⟨Nat.ne_of_lt qR3_R1, (fun _ h => nomatch h)⟩)⟩) (fun _ h => nomatch h) rfl); clear g10 o10)
    | (refine wpList_load_at rfl 159 (.tmp 3) rfl (R3) 0 rfl 159 #[.int .i64 src, .int .i64 pgn, .int .i64 sq, .int .i64 nx, .int .i64 sz, .string dt, .int .i64 ag] (0, 0) (HL10.out.get (.head _)) [.int .i64 src, .int .i64 pgn, .int .i64 sq, .int .i64 nx, .int .i64 sz, .string dt, .int .i64 ag] rfl _ Tryz.underlying159 rfl (by kernel_rfl) ?_)
    | (refine wpList_put_at rfl 159 (.tmp 2) (.tmp 25) rfl rfl (R2) 0 rfl (.agg #[.int .i64 src, .int .i64 pgn, .int .i64 sq, .int .i64 nx, .int .i64 sz, .string dt, .int .i64 ag]) rfl #[.int .i64 src, .int .i64 pgn, .int .i64 sq, .int .i64 nx, .int .i64 sz, .string dt, .int .i64 ag] rfl 159 #[.int .i64 0, .int .i64 0, .int .i64 0, .int .i64 0, .int .i64 0, .string ByteArray.empty, .int .i64 0] #[.int .i64 src, .int .i64 pgn, .int .i64 sq, .int .i64 nx, .int .i64 sz, .string dt, .int .i64 ag] (HL10.out.get (.tail _ (.head _))) (by kernel_rfl) (by kernel_rfl) (by kernel_rfl) (by kernel_rfl) ?_; intro w11 g11 o11; have HL11 := Lib.hid (show Lg w w11 [(R3, #[.int .i64 src, .int .i64 pgn, .int .i64 sq, .int .i64 nx, .int .i64 sz, .string dt, .int .i64 ag], 159), (R2, #[.int .i64 src, .int .i64 pgn, .int .i64 sq, .int .i64 nx, .int .i64 sz, .string dt, .int .i64 ag], 159), (R1, #[.int .i64 src, .int .i64 pgn, .int .i64 sq, .int .i64 nx, .int .i64 sz, .string dt, .int .i64 ag], 135)] [] from HL10.out.put 1 rfl g11 o11 (List.forall_mem_cons.2 ⟨Nat.ne_of_gt qR3_R2, (List.forall_mem_cons.2 ⟨Nat.ne_of_lt qR2_R1, (fun _ h => nomatch h)⟩)⟩) (fun _ h => nomatch h) rfl); clear g11 o11))
  exact bodyPost_ret (results_cell_row (p := 2) (ty := 159) (by kernel_rfl) _ _ (R2) 159 _ (0, 0) _ rfl (HL11.out.get (.tail _ (.head _))) Tryz.underlying159 rfl (by kernel_rfl)) rfl ⟨rfl, HL11.out.below⟩
set_option maxRecDepth 100000 in
set_option maxHeartbeats 2000000 in
theorem eqSession_same (x : Se) (w : World) :
    Calls Tryz.prog 110 #[.agg (seL x).toArray, .agg (seL x).toArray] w fun e w' => e = .returned (.bool true) ∧ Below w.heap.size w w' := by
  obtain ⟨src, pgn, sq, nx, sz, dt, ag⟩ := x
  unfold seL
  dsimp only
  go_enter Tryz.func110, Tryz.ntmps110
  go_wp2
  go_ret
  exact ⟨rfl, ((Below.refl _ _).alloc (Nat.le_refl _) _).alloc (by simp) _⟩
theorem SesTo.info : (Tryz.prog.info? 159).map (fun i => (i.zero, i.size, i.bytes)) = some (some (.agg #[.int .i64 0, .int .i64 0, .int .i64 0, .int .i64 0, .int .i64 0, .string ByteArray.empty, .int .i64 0]), 7, 64) := by kernel_rfl
set_option maxRecDepth 100000 in
set_option maxHeartbeats 2000000 in
theorem toSessionS_new (a : Option Addr) (cap : Nat) (l : List Se) (w : World) (h : RsIn seL 7 w a l) (hlen : l.length ≤ 1048576) :
    Calls Tryz.prog 41 #[.slice a l.length cap] w fun e w' => e = .returned (.slice (some ⟨w.heap.size, 0, none⟩) l.length l.length) ∧ RsNew seL 7 159 w.heap.size w'.heap.size w' (some ⟨w.heap.size, 0, none⟩) l ∧ Below w.heap.size w w' := by
  obtain ⟨i0, hi, hz0, hz1, hz2⟩ := info_parts SesTo.info
  obtain ⟨N, hN⟩ : ∃ N, l.length = N := ⟨_, rfl⟩
  have HN := Lib.hid hN
  have HH := Lib.hid h
  rw [hN] at hlen ⊢
  clear hN h
  go_enter Tryz.func41, Tryz.ntmps41
  go_wp2_with (at_make; refine wpList_make_full _ rfl (.tmp 6) (.tmp 6) 44 rfl w.heap.size 159 i0 (.agg #[.int .i64 0, .int .i64 0, .int .i64 0, .int .i64 0, .int .i64 0, .string ByteArray.empty, .int .i64 0]) 7 Tryz.underlying44 hi hz0 hz1 .i64 .i64 (N : Int) (N : Int) N (by rfl) (by rfl) (by omega) (by omega) (by rw [hz2]; omega) (by unfold maxLen; omega) (Nat.le_refl _) ?_; intro w1 hown hgrow)
  have hb1 : Below w.heap.size w w1 := (Below.refl _ _).grown hgrow (Nat.le_refl _) (fun _ h => by cases h)
  rcases Nat.eq_zero_or_pos N with hN0 | hN0
  · subst hN0
    have hl : l = [] := List.eq_nil_of_length_eq_zero HN.out
    clear hown hgrow
    refine wp_loop_rounds 1 ?_
    rw [rounds_succ]; go_wp2
    go_ret
    exact ⟨rfl, .inl (by first | exact hl | rfl), hb1⟩
  obtain ⟨row0, hg0, hs0⟩ : ∃ row0, w1.heap[w.heap.size]? = some (.cells row0 159 (0, 0)) ∧ row0.size = N * 7 := by
    rcases hown.2 with ⟨h', _⟩ | ⟨g', cap', cur, h', _, hg, _, _, hc, _⟩
    · simp at h'
    · simp only [Value.slice.injEq, Option.some.injEq, Addr.mk.injEq, and_true, true_and] at h'
      obtain ⟨rfl, rfl⟩ := h'
      exact ⟨cur, hg, hc⟩
  have HG0 := Lib.hid hg0
  have HS0 := Lib.hid hs0
  clear hown hgrow hg0 hs0
  obtain ⟨b, o, rfl, hlt, hc⟩ := HH.out.at (by have := HN.out; omega)
  have HI := Lib.hid hc
  clear hc HH
  go_loopw [4] (fun i wr => ∃ (k : Nat) (row : Array Value), i = .int .i64 (k : Int) ∧ k ≤ N ∧ Below w.heap.size w wr ∧ wr.heap[w.heap.size]? = some (.cells row 159 (0, 0)) ∧ row.size = N * 7 ∧
    (∀ j, j < k → ∀ c v, (seL (seAt l j))[c]? = some v → row[j * 7 + c]? = some v)) (fun i _ => N - (intOf i).toNat)
  case atStart => exact ⟨0, row0, rfl, by omega, hb1, HG0.out, HS0.out, fun j hj => absurd hj (by omega)⟩
  case round =>
    obtain ⟨k, row, rfl, hk, hb, hgr, hrs, hdone⟩ := hrel
    have HD := Lib.hid hdone
    have HR := Lib.hid hgr
    have HRs := Lib.hid hrs
    have hsz : w.heap.size < wr.heap.size := (Array.getElem?_eq_some_iff.1 hgr).1
    clear hdone hgr hrs
    by_cases hkn : k < N
    · have hkl : k < l.length := by have := HN.out; omega
      have hi1 : (0 : Int) ≤ (k : Int) := by omega
      have hi2 : (k : Int) < (N : Int) := by omega
      have HCs := Lib.hid (fun j v hv => (hb.cell (p := ⟨b, _, none⟩) hlt).trans (HI.out k _ (seAt_some hkl) j v hv))
      go_wp2_with (refine wpList_load_cells rfl 135 (.tmp 18) rfl b (o + k * 7) rfl (seL (seAt l k)) HCs.out _ Tryz.underlying135 rfl (by kernel_rfl) ?_)
      refine (toSession_any _ _).mono ?_
      rintro e w2 ⟨rfl, h2⟩
      have hg2 := (h2.block _ hsz).trans HR.out
      have HG2 := Lib.hid hg2
      clear hg2
      go_wp2_with (refine wpList_put_at rfl 159 (.tmp 21) (.tmp 20) rfl rfl (w.heap.size) (k * 7) rfl (.agg (seL (seAt l k)).toArray) rfl (seL (seAt l k)).toArray rfl 159 row _ HG2.out (by kernel_rfl) (Nat.ble_eq_true_of_le (by show k * 7 + 7 ≤ row.size; rw [HRs.out]; omega)) (by rfl) rfl ?_; intro w3 g3 o3; have HG3 := Lib.hid g3; have HO3 := Lib.hid o3; clear g3 o3)
      go_roundw
      case rel =>
        refine ⟨k + 1, _, by go_num, by omega, ?_, HG3.out, by rw [setAll_size, HRs.out], fun j hj c v hv => ?_⟩
        · exact HO3.out.below (hb.trans (h2.mono (Nat.le_of_lt hsz))) (Nat.le_refl _) (Nat.le_trans (Nat.le_of_lt hsz) h2.size)
        · have hc7 : c < 7 := by
            have := (List.getElem?_eq_some_iff.1 hv).1
            rwa [seL_len] at this
          rcases Nat.lt_or_ge j k with h | h
          · rw [setAll_off _ _ _ _ (.inl (by omega))]
            exact HD.out j h c v hv
          · obtain rfl : j = k := by omega
            exact setAll_at _ _ _ _ _ (by show j * 7 + 7 ≤ row.size; rw [HRs.out]; omega) hv
      case measure => simp [intOf]; omega
    · have hge : N ≤ k := by omega
      go_wp2_with fail
      go_ret
      exact ⟨rfl, .inr ⟨w.heap.size, 0, row, rfl, Nat.le_refl _, hsz, HR.out, by rw [HRs.out, HN.out]; omega, fun i x hx c v hv => by
        have hi : i < l.length := (List.getElem?_eq_some_iff.1 hx).1
        rw [seAt_some hi] at hx
        obtain rfl := Option.some.inj hx
        rw [Nat.zero_add]
        exact HD.out i (by have := HN.out; omega) c v hv⟩, hb⟩
set_option maxRecDepth 100000 in
set_option maxHeartbeats 2000000 in
theorem eqSessionS_same (a a' : Option Addr) (cap cap' : Nat) (l : List Se) (w : World) (h : RsIn seL 7 w a l) (h' : RsIn seL 7 w a' l) (hlen : l.length ≤ 1048576) :
    Calls Tryz.prog 53 #[.slice a l.length cap, .slice a' l.length cap'] w fun e w' => e = .returned (.bool true) ∧ Below w.heap.size w w' := by
  obtain ⟨N, hN⟩ : ∃ N, l.length = N := ⟨_, rfl⟩
  have HN := Lib.hid hN
  have HI := Lib.hid h
  have HI' := Lib.hid h'
  rw [hN] at hlen ⊢
  clear hN h h'
  go_enter Tryz.func53, Tryz.ntmps53
  go_wp2_with fail
  go_loopw [5] (fun i wr => ∃ k : Nat, i = .int .i64 (k : Int) ∧ k ≤ N ∧ Below w.heap.size w wr) (fun i _ => N - (intOf i).toNat)
  case atStart => exact ⟨0, rfl, by omega, Below.refl _ _⟩
  case round =>
    obtain ⟨k, rfl, hk, hb⟩ := hrel
    by_cases hkn : k < N
    · have hkl : k < l.length := by have := HN.out; omega
      have hi1 : (0 : Int) ≤ (k : Int) := by omega
      have hi2 : (k : Int) < (N : Int) := by omega
      obtain ⟨b, o, rfl, hlt, hc⟩ := HI.out.at (by omega)
      obtain ⟨b', o', rfl, hlt', hc'⟩ := HI'.out.at (by omega)
      have lB : b < wr.heap.size := Nat.lt_of_lt_of_le hlt hb.size
      have lB' : b' < wr.heap.size := Nat.lt_of_lt_of_le hlt' hb.size
      have HC := Lib.hid (fun j v hv => (hb.cell (p := ⟨b, _, none⟩) hlt).trans (hc k _ (seAt_some hkl) j v hv))
      have HC' := Lib.hid (fun j v hv => (hb.cell (p := ⟨b', _, none⟩) hlt').trans (hc' k _ (seAt_some hkl) j v hv))
      clear hc hc'
      generalize seAt l k = x at *
      go_wp2_with fail
      refine wp_region_quiet (C := fun W => Below wr.heap.size wr W) (by kernel_rfl) (by kernel_rfl) (Below.refl _ _).drew ?_
      dsimp only
      go_big_quiet_want; go_big_quiet_op; first | go_big_quiet_on | (refine ⟨_, fun _ _ => rfl, ?_⟩; go_big_quiet_on)
      go_big_quiet_want; go_big_quiet_op; first | go_big_quiet_on | (refine ⟨_, fun _ _ => rfl, ?_⟩; go_big_quiet_on)
      go_big_quiet_want; go_big_quiet_op; first | go_big_quiet_on | (refine ⟨_, fun _ _ => rfl, ?_⟩; go_big_quiet_on)
      go_big_quiet_want; refine ⟨.agg (seL x).toArray, fun W hW => (quietLoadCells 159 (.tmp 19) rfl b (o + k * 7) rfl (seL x) (grownCells lB HC.out hW) _ Tryz.underlying159 rfl (by kernel_rfl)), ?_⟩; simp only [Act.put, List.setIfInBounds_toArray, List.set_cons_zero, List.set_cons_succ]; go_big_quiet_on
      go_big_quiet_want; go_big_quiet_op; first | go_big_quiet_on | (refine ⟨_, fun _ _ => rfl, ?_⟩; go_big_quiet_on)
      go_big_quiet_want; go_big_quiet_op; first | go_big_quiet_on | (refine ⟨_, fun _ _ => rfl, ?_⟩; go_big_quiet_on)
      go_big_quiet_want; go_big_quiet_op; first | go_big_quiet_on | (refine ⟨_, fun _ _ => rfl, ?_⟩; go_big_quiet_on)
      go_big_quiet_want; refine ⟨.agg (seL x).toArray, fun W hW => (quietLoadCells 159 (.tmp 23) rfl b' (o' + k * 7) rfl (seL x) (grownCells lB' HC'.out hW) _ Tryz.underlying159 rfl (by kernel_rfl)), ?_⟩; simp only [Act.put, List.setIfInBounds_toArray, List.set_cons_zero, List.set_cons_succ]; go_big_quiet_on
      go_big_quiet_want; go_big_quiet_op; refine ⟨_, fun W hW => quietCall hW (eqSession_same x W), ?_⟩; go_big_quiet_on
      go_big_quiet_want; go_big_quiet_op; first | go_big_quiet_on | (refine ⟨_, fun _ _ => rfl, ?_⟩; go_big_quiet_on)
      refine wpQuiet_nil ?_
      intro X hX
      go_wp2_with fail
      go_roundw
      case rel => exact ⟨k + 1, by go_num, by omega, hb.trans (hX.mono hb.size)⟩
      case measure => simp [intOf]; omega
    · go_wp2_with fail
      go_ret
      exact ⟨rfl, hb⟩
end Go.Proofs.YtioldepgoodipaaGreat
