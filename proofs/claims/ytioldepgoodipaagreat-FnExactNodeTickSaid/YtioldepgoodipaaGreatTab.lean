/- Tables of Sessions: whether one is right: the program's and the model's. Nothing that was there is written. -/
import Derived.Test.YtioldepgoodipaaGreatSess
import Derived.Test.YtioldepgoodipaaGreatQuiet
namespace Go.Proofs.YtioldepgoodipaaGreat
open Go.RowKit
set_option linter.unusedVariables false

/-- The i-th one. -/
def seAt (l : List Se) (i : Nat) : Se := l[i]?.getD ⟨0, 0, 0, 0, 0, ByteArray.empty, 0⟩
theorem seAt_some {l : List Se} {i : Nat} (h : i < l.length) : l[i]? = some (seAt l i) := by
  unfold seAt
  rw [List.getElem?_eq_getElem h]
  rfl
def SesOk (l : List Se) : Prop := ∀ x ∈ l, SeOk x
theorem seAt_ok {l : List Se} (h : SesOk l) {i : Nat} (hi : i < l.length) : SeOk (seAt l i) := h _ (List.mem_of_getElem? (seAt_some hi))
/-- The i-th one is right, and behind the one ahead of it. -/
def okAt (l : List Se) (i : Nat) : Bool := seB (seAt l i) && (decide (i = 0) || lessB (seAt l (i - 1)) (seAt l i).src (seAt l i).pgn)
/-- The table is right. -/
def tabB (l : List Se) : Bool := decide (l.length ≤ 4) && (List.range l.length).all (okAt l)
def TabTo (l : List Se) (n : Nat) : Prop := ∀ i, i < n → okAt l i = true
theorem TabTo.zero (l : List Se) : TabTo l 0 := fun i h => absurd h (by omega)
theorem TabTo.next {l : List Se} {n : Nat} (h : TabTo l n) (hn : okAt l n = true) : TabTo l (n + 1) := by
  intro i hi
  rcases Nat.lt_or_ge i n with h' | h'
  · exact h i h'
  · obtain rfl : i = n := by omega
    exact hn
theorem tabB_yes {l : List Se} (h4 : l.length ≤ 4) (h : TabTo l l.length) : tabB l = true := by
  unfold tabB
  rw [decide_eq_true h4, Bool.true_and, List.all_eq_true]
  exact fun i hi => h i (by simpa using hi)
theorem tabB_no {l : List Se} {i : Nat} (hi : i < l.length) (h : okAt l i = false) : tabB l = false := by
  unfold tabB
  rw [Bool.and_eq_false_iff]
  right
  rw [List.all_eq_false]
  exact ⟨i, by simpa using hi, by rw [h]; simp⟩
theorem tabB_long {l : List Se} (h : 4 < l.length) : tabB l = false := by
  unfold tabB
  rw [decide_eq_false (by omega), Bool.false_and]
theorem tabB_of {l : List Se} (h : tabB l = true) : l.length ≤ 4 ∧ TabTo l l.length := by
  unfold tabB at h
  rw [Bool.and_eq_true, List.all_eq_true] at h
  exact ⟨of_decide_eq_true h.1, fun i hi => h.2 i (by simpa using hi)⟩


set_option maxRecDepth 100000 in
set_option maxHeartbeats 8000000 in
theorem specTable_any (a : Option Addr) (cap : Nat) (l : List Se) (w : World) (h : RsIn seL 7 w a l) (hok : SesOk l) (hlen : l.length ≤ maxLen) :
    Calls Tryz.prog 80 #[.slice a l.length cap] w fun e w' => e = .returned (.bool (tabB l)) ∧ Below w.heap.size w w' := by
  unfold maxLen at hlen
  by_cases hbig : 4 < l.length
  · have hd : decide ((4 : Int) < (l.length : Int)) = true := decide_eq_true (by omega)
    have HV := Lib.hid (tabB_long hbig)
    go_enter Tryz.func80, Tryz.ntmps80
    go_wp2_with fail
    go_ret
    exact ⟨by rw [HV.out]; rfl, Below.refl _ _⟩
  have hd : decide ((4 : Int) < (l.length : Int)) = false := decide_eq_false (by omega)
  have HI := Lib.hid h
  have HK := Lib.hid hok
  obtain ⟨N, hN⟩ : ∃ N, l.length = N := ⟨_, rfl⟩
  have HN := Lib.hid hN
  rw [hN] at hbig hd ⊢
  clear hlen h hok hN
  go_enter Tryz.func80, Tryz.ntmps80
  go_wp2_with fail
  go_loopw [3] (fun i wr => ∃ k : Nat, i = .int .i64 (k : Int) ∧ k ≤ N ∧ TabTo l k ∧ Below w.heap.size w wr) (fun i _ => N - (intOf i).toNat)
  case atStart => exact ⟨0, rfl, by omega, TabTo.zero l, Below.refl _ _⟩
  case round =>
    obtain ⟨k, rfl, hk, hup, hb⟩ := hrel
    have HU := Lib.hid hup
    clear hup
    by_cases hkn : k < N
    · have hkl : k < l.length := by have := HN.out; omega
      have hi1 : (0 : Int) ≤ (k : Int) := by omega
      have hi2 : (k : Int) < (N : Int) := by omega
      obtain ⟨b, o, rfl, hlt, hc⟩ := HI.out.at (by omega)
      have lB : b < wr.heap.size := Nat.lt_of_lt_of_le hlt hb.size
      have HCs := Lib.hid (fun j v hv => (hb.cell (p := ⟨b, _, none⟩) hlt).trans (hc k _ (seAt_some hkl) j v hv))
      have HCp := Lib.hid (fun m (hm : k = m + 1) j v hv => (hb.cell (p := ⟨b, _, none⟩) hlt).trans (hc m _ (seAt_some (l := l) (i := m) (by omega)) j v hv))
      have HNo := Lib.hid (@tabB_no l k hkl)
      have HNx := Lib.hid (@TabTo.next l k HU.out)
      have HE := Lib.hid (show okAt l k = (seB (seAt l k) && (decide (k = 0) || lessB (seAt l (k - 1)) (seAt l k).src (seAt l k).pgn)) from rfl)
      have HSe := Lib.hid (seAt_ok HK.out hkl)
      clear hc
      generalize hx : seAt l k = x at *
      obtain ⟨src, pgn, sq, nx, sz, dt, ag⟩ := x
      unfold seL at HCs
      dsimp only at *
      go_wp2_with (first
        | (refine wpList_load_cells rfl 159 (.tmp 16) rfl b (o + k * 7) rfl [.int .i64 src, .int .i64 pgn, .int .i64 sq, .int .i64 nx, .int .i64 sz, .string dt, .int .i64 ag] HCs.out _ Tryz.underlying159 rfl (by kernel_rfl) ?_)
        | (refine wpList_alloc_h rfl 159 rfl (.agg #[.int .i64 0, .int .i64 0, .int .i64 0, .int .i64 0, .int .i64 0, .string ByteArray.empty, .int .i64 0]) (by kernel_rfl) #[.int .i64 0, .int .i64 0, .int .i64 0, .int .i64 0, .int .i64 0, .string ByteArray.empty, .int .i64 0] rfl ?_; intro w1 R1 e1 g1 b1; have HL1 := Lib.hid (show Lg wr w1 [(R1, #[.int .i64 0, .int .i64 0, .int .i64 0, .int .i64 0, .int .i64 0, .string ByteArray.empty, .int .i64 0], 159)] [] from (Lg.first wr).box e1 g1 b1); clear g1 b1 e1)
        | (refine wpList_put_at rfl 159 (.tmp 4) (.tmp 17) rfl rfl (R1) 0 rfl (.agg #[.int .i64 src, .int .i64 pgn, .int .i64 sq, .int .i64 nx, .int .i64 sz, .string dt, .int .i64 ag]) rfl #[.int .i64 src, .int .i64 pgn, .int .i64 sq, .int .i64 nx, .int .i64 sz, .string dt, .int .i64 ag] rfl 159 #[.int .i64 0, .int .i64 0, .int .i64 0, .int .i64 0, .int .i64 0, .string ByteArray.empty, .int .i64 0] #[.int .i64 src, .int .i64 pgn, .int .i64 sq, .int .i64 nx, .int .i64 sz, .string dt, .int .i64 ag] (HL1.out.get (.head _)) (by kernel_rfl) (by kernel_rfl) (by kernel_rfl) (by kernel_rfl) ?_; intro w2 g2 o2; have HL2 := Lib.hid (show Lg wr w2 [(R1, #[.int .i64 src, .int .i64 pgn, .int .i64 sq, .int .i64 nx, .int .i64 sz, .string dt, .int .i64 ag], 159)] [] from HL1.out.put 0 rfl g2 o2 (fun _ h => nomatch h) (fun _ h => nomatch h) rfl); clear g2 o2)
        | (refine wpList_load_one rfl 2 (.tmp 18) rfl (R1) 0 rfl 159 #[.int .i64 src, .int .i64 pgn, .int .i64 sq, .int .i64 nx, .int .i64 sz, .string dt, .int .i64 ag] (0, 0) (HL2.out.get (.head _)) (.int .i64 src) rfl _ Tryz.underlying2 rfl (by kernel_rfl) ?_))
      refine (l02Is_any _ _ _ _).mono ?_
      rcases c0 : inB 0 255 src
      · rintro e w' ⟨rfl, rfl⟩
        have HV := Lib.hid (HNo.out (by rw [HE.out]; unfold seB; simp [c0]))
        go_wp2_with fail
        go_ret
        exact ⟨by rw [HV.out]; rfl, hb.trans (HL2.out.below.mono hb.size)⟩
      rintro e w' ⟨rfl, rfl⟩
      go_wp2_with (first
        | (refine wpList_load_one rfl 2 (.tmp 23) rfl (R1) 1 rfl 159 #[.int .i64 src, .int .i64 pgn, .int .i64 sq, .int .i64 nx, .int .i64 sz, .string dt, .int .i64 ag] (0, 0) (HL2.out.get (.head _)) (.int .i64 pgn) rfl _ Tryz.underlying2 rfl (by kernel_rfl) ?_))
      refine (l02Pgn_any _ _).mono ?_
      rcases c1 : inB 0 131071 pgn
      · rintro e w' ⟨rfl, rfl⟩
        have HV := Lib.hid (HNo.out (by rw [HE.out]; unfold seB; simp [c0, c1]))
        go_wp2_with fail
        go_ret
        exact ⟨by rw [HV.out]; rfl, hb.trans (HL2.out.below.mono hb.size)⟩
      rintro e w' ⟨rfl, rfl⟩
      go_wp2_with (first
        | (refine wpList_load_one rfl 2 (.tmp 29) rfl (R1) 2 rfl 159 #[.int .i64 src, .int .i64 pgn, .int .i64 sq, .int .i64 nx, .int .i64 sz, .string dt, .int .i64 ag] (0, 0) (HL2.out.get (.head _)) (.int .i64 sq) rfl _ Tryz.underlying2 rfl (by kernel_rfl) ?_))
      refine (l02Is_any _ _ _ _).mono ?_
      rcases c2 : inB 0 7 sq
      · rintro e w' ⟨rfl, rfl⟩
        have HV := Lib.hid (HNo.out (by rw [HE.out]; unfold seB; simp [c0, c1, c2]))
        go_wp2_with fail
        go_ret
        exact ⟨by rw [HV.out]; rfl, hb.trans (HL2.out.below.mono hb.size)⟩
      rintro e w' ⟨rfl, rfl⟩
      go_wp2_with (first
        | (refine wpList_load_one rfl 2 (.tmp 35) rfl (R1) 3 rfl 159 #[.int .i64 src, .int .i64 pgn, .int .i64 sq, .int .i64 nx, .int .i64 sz, .string dt, .int .i64 ag] (0, 0) (HL2.out.get (.head _)) (.int .i64 nx) rfl _ Tryz.underlying2 rfl (by kernel_rfl) ?_))
      refine (l02Is_any _ _ _ _).mono ?_
      rcases c3 : inB 1 31 nx
      · rintro e w' ⟨rfl, rfl⟩
        have HV := Lib.hid (HNo.out (by rw [HE.out]; unfold seB; simp [c0, c1, c2, c3]))
        go_wp2_with fail
        go_ret
        exact ⟨by rw [HV.out]; rfl, hb.trans (HL2.out.below.mono hb.size)⟩
      rintro e w' ⟨rfl, rfl⟩
      go_wp2_with (first
        | (refine wpList_load_one rfl 2 (.tmp 41) rfl (R1) 4 rfl 159 #[.int .i64 src, .int .i64 pgn, .int .i64 sq, .int .i64 nx, .int .i64 sz, .string dt, .int .i64 ag] (0, 0) (HL2.out.get (.head _)) (.int .i64 sz) rfl _ Tryz.underlying2 rfl (by kernel_rfl) ?_))
      refine (l02Is_any _ _ _ _).mono ?_
      rcases c4 : inB 7 223 sz
      · rintro e w' ⟨rfl, rfl⟩
        have HV := Lib.hid (HNo.out (by rw [HE.out]; unfold seB; simp [c0, c1, c2, c3, c4]))
        go_wp2_with fail
        go_ret
        exact ⟨by rw [HV.out]; rfl, hb.trans (HL2.out.below.mono hb.size)⟩
      rintro e w' ⟨rfl, rfl⟩
      go_wp2_with (first
        | (refine wpList_load_one rfl 2 (.tmp 47) rfl (R1) 6 rfl 159 #[.int .i64 src, .int .i64 pgn, .int .i64 sq, .int .i64 nx, .int .i64 sz, .string dt, .int .i64 ag] (0, 0) (HL2.out.get (.head _)) (.int .i64 ag) rfl _ Tryz.underlying2 rfl (by kernel_rfl) ?_))
      refine (l02Is_any _ _ _ _).mono ?_
      rcases c5 : inB 0 750 ag
      · rintro e w' ⟨rfl, rfl⟩
        have HV := Lib.hid (HNo.out (by rw [HE.out]; unfold seB; simp [c0, c1, c2, c3, c4, c5]))
        go_wp2_with fail
        go_ret
        exact ⟨by rw [HV.out]; rfl, hb.trans (HL2.out.below.mono hb.size)⟩
      rintro e w' ⟨rfl, rfl⟩
      go_wp2_with fail
      have g3 := inB_of c3
      have g4 := inB_of c4
      obtain ⟨q1, e1⟩ : ∃ q, nx - 1 = q := ⟨_, rfl⟩
      obtain ⟨q2, e2⟩ : ∃ q, 7 * q1 = q := ⟨_, rfl⟩
      obtain ⟨q3, e3⟩ : ∃ q, 6 + q2 = q := ⟨_, rfl⟩
      have z1 : IntKind.i64.wrap (nx - 1) = q1 := (IntWalk.i64_in _ (by omega)).trans e1
      have z2 : IntKind.i64.wrap (7 * q1) = q2 := (IntWalk.i64_in _ (by omega)).trans e2
      have z3 : IntKind.i64.wrap (6 + q2) = q3 := (IntWalk.i64_in _ (by omega)).trans e3
      have HQ := Lib.hid (show 6 + 7 * (nx - 1) = q3 by rw [e1, e2, e3])
      clear e1 e2 e3 g3 g4
      have lY : b < w2.heap.size := Nat.lt_of_lt_of_le lB HL2.out.below.size
      by_cases h4 : (dt.size : Int) = q3
      · have b4 : ((dt.size : Int) != q3) = false := by simpa using h4
        have H4 := Lib.hid h4
        clear h4
        by_cases h5 : sz ≤ (dt.size : Int)
        · have b5 : decide (sz ≤ (dt.size : Int)) = true := decide_eq_true h5
          have HV := Lib.hid (HNo.out (by rw [HE.out]; unfold seB; simp [c0, c1, c2, c3, c4, c5, HQ.out, show ¬ q3 < sz by have := H4.out; omega, H4.out]))
          clear HNo HNx HE HU HK HI
          obtain ⟨m, y, HY⟩ : ∃ (m : Nat) (y : Se), Hid (∀ (j : Nat) v, (seL y)[j]? = some v → w2.cell? ⟨b, o + m * 7 + j, none⟩ = some v) := ⟨k, ⟨src, pgn, sq, nx, sz, dt, ag⟩, Lib.hid (grownCells lB HCs.out HL2.out.below)⟩
          refine wp_region_quiet (C := fun W => Below w2.heap.size w2 W) (by kernel_rfl) (by kernel_rfl) (Below.refl _ _).drew ?_
          dsimp only
          go_big_quiet_want; go_big_quiet_op; first | go_big_quiet_on | (refine ⟨_, fun _ _ => rfl, ?_⟩; go_big_quiet_on)
          go_big_quiet_want; refine ⟨.string dt, fun W hW => (quietLoadOne 9 (.tmp 52) rfl R1 5 rfl _ (rowCells (HL2.out.get (.head _)) hW 5 _ rfl) _ Tryz.underlying9 rfl), ?_⟩; simp only [Act.put, List.setIfInBounds_toArray, List.set_cons_zero, List.set_cons_succ]; go_big_quiet_on
          go_big_quiet_want; go_big_quiet_op; first | go_big_quiet_on | (refine ⟨_, fun _ _ => rfl, ?_⟩; go_big_quiet_on)
          go_big_quiet_want; go_big_quiet_op; first | go_big_quiet_on | (refine ⟨_, fun _ _ => rfl, ?_⟩; go_big_quiet_on)
          go_big_quiet_want; refine ⟨.int .i64 nx, fun W hW => (quietLoadOne 2 (.tmp 55) rfl R1 3 rfl _ (rowCells (HL2.out.get (.head _)) hW 3 _ rfl) _ Tryz.underlying2 rfl), ?_⟩; simp only [Act.put, List.setIfInBounds_toArray, List.set_cons_zero, List.set_cons_succ]; go_big_quiet_on
          go_big_quiet_want; go_big_quiet_op; first | go_big_quiet_on | (refine ⟨_, fun _ _ => rfl, ?_⟩; go_big_quiet_on)
          go_big_quiet_want; go_big_quiet_op; first | go_big_quiet_on | (refine ⟨_, fun _ _ => rfl, ?_⟩; go_big_quiet_on)
          go_big_quiet_want; go_big_quiet_op; first | go_big_quiet_on | (refine ⟨_, fun _ _ => rfl, ?_⟩; go_big_quiet_on)
          go_big_quiet_want; go_big_quiet_op; first | go_big_quiet_on | (refine ⟨_, fun _ _ => rfl, ?_⟩; go_big_quiet_on)
          go_big_quiet_want; go_big_quiet_op; first | go_big_quiet_on | (refine ⟨_, fun _ _ => rfl, ?_⟩; go_big_quiet_on)
          first | go_big_quiet_skip | (go_big_quiet_want; go_big_quiet_op; first | go_big_quiet_on | (refine ⟨_, fun _ _ => rfl, ?_⟩; go_big_quiet_on))
          first | go_big_quiet_skip | (go_big_quiet_want; refine ⟨.string dt, fun W hW => (quietLoadOne 9 (.tmp 62) rfl R1 5 rfl _ (rowCells (HL2.out.get (.head _)) hW 5 _ rfl) _ Tryz.underlying9 rfl), ?_⟩; simp only [Act.put, List.setIfInBounds_toArray, List.set_cons_zero, List.set_cons_succ]; go_big_quiet_on)
          first | go_big_quiet_skip | (go_big_quiet_want; go_big_quiet_op; first | go_big_quiet_on | (refine ⟨_, fun _ _ => rfl, ?_⟩; go_big_quiet_on))
          first | go_big_quiet_skip | (go_big_quiet_want; go_big_quiet_op; first | go_big_quiet_on | (refine ⟨_, fun _ _ => rfl, ?_⟩; go_big_quiet_on))
          first | go_big_quiet_skip | (go_big_quiet_want; refine ⟨.int .i64 sz, fun W hW => (quietLoadOne 2 (.tmp 65) rfl R1 4 rfl _ (rowCells (HL2.out.get (.head _)) hW 4 _ rfl) _ Tryz.underlying2 rfl), ?_⟩; simp only [Act.put, List.setIfInBounds_toArray, List.set_cons_zero, List.set_cons_succ]; go_big_quiet_on)
          first | go_big_quiet_skip | (go_big_quiet_want; go_big_quiet_op; first | go_big_quiet_on | (refine ⟨_, fun _ _ => rfl, ?_⟩; go_big_quiet_on))
          go_big_quiet_want; go_big_quiet_op; first | go_big_quiet_on | (refine ⟨_, fun _ _ => rfl, ?_⟩; go_big_quiet_on)
          go_big_quiet_want; go_big_quiet_op; first | go_big_quiet_on | (refine ⟨_, fun _ _ => rfl, ?_⟩; go_big_quiet_on)
          first | go_big_quiet_skip | (go_big_quiet_want; go_big_quiet_op; first | go_big_quiet_on | (refine ⟨_, fun _ _ => rfl, ?_⟩; go_big_quiet_on))
          first | go_big_quiet_skip | (go_big_quiet_want; go_big_quiet_op; first | go_big_quiet_on | (refine ⟨_, fun _ _ => rfl, ?_⟩; go_big_quiet_on))
          first | go_big_quiet_skip | (go_big_quiet_want; go_big_quiet_op; first | go_big_quiet_on | (refine ⟨_, fun _ _ => rfl, ?_⟩; go_big_quiet_on))
          first | go_big_quiet_skip | (go_big_quiet_want; go_big_quiet_op; first | go_big_quiet_on | (refine ⟨_, fun _ _ => rfl, ?_⟩; go_big_quiet_on))
          first | go_big_quiet_skip | (go_big_quiet_want; go_big_quiet_op; first | go_big_quiet_on | (refine ⟨_, fun _ _ => rfl, ?_⟩; go_big_quiet_on))
          first | go_big_quiet_skip | (go_big_quiet_want; go_big_quiet_op; first | go_big_quiet_on | (refine ⟨_, fun _ _ => rfl, ?_⟩; go_big_quiet_on))
          first | go_big_quiet_skip | (go_big_quiet_want; go_big_quiet_op; first | go_big_quiet_on | (refine ⟨_, fun _ _ => rfl, ?_⟩; go_big_quiet_on))
          first | go_big_quiet_skip | (go_big_quiet_want; refine ⟨.agg (seL y).toArray, fun W hW => (quietLoadCells 159 (.tmp 76) rfl b (o + m * 7) rfl (seL y) (grownCells lY HY.out hW) _ Tryz.underlying159 rfl (by kernel_rfl)), ?_⟩; simp only [Act.put, List.setIfInBounds_toArray, List.set_cons_zero, List.set_cons_succ]; go_big_quiet_on)
          first | go_big_quiet_skip | (go_big_quiet_want; go_big_quiet_op; first | go_big_quiet_on | (refine ⟨_, fun _ _ => rfl, ?_⟩; go_big_quiet_on))
          first | go_big_quiet_skip | (go_big_quiet_want; refine ⟨.int .i64 src, fun W hW => (quietLoadOne 2 (.tmp 78) rfl R1 0 rfl _ (rowCells (HL2.out.get (.head _)) hW 0 _ rfl) _ Tryz.underlying2 rfl), ?_⟩; simp only [Act.put, List.setIfInBounds_toArray, List.set_cons_zero, List.set_cons_succ]; go_big_quiet_on)
          first | go_big_quiet_skip | (go_big_quiet_want; go_big_quiet_op; first | go_big_quiet_on | (refine ⟨_, fun _ _ => rfl, ?_⟩; go_big_quiet_on))
          first | go_big_quiet_skip | (go_big_quiet_want; refine ⟨.int .i64 pgn, fun W hW => (quietLoadOne 2 (.tmp 80) rfl R1 1 rfl _ (rowCells (HL2.out.get (.head _)) hW 1 _ rfl) _ Tryz.underlying2 rfl), ?_⟩; simp only [Act.put, List.setIfInBounds_toArray, List.set_cons_zero, List.set_cons_succ]; go_big_quiet_on)
          first | go_big_quiet_skip | (go_big_quiet_want; go_big_quiet_op; refine ⟨_, fun W hW => quietCall hW (l06Less_any y src pgn W), ?_⟩; go_big_quiet_on)
          first | go_big_quiet_skip | (go_big_quiet_want; go_big_quiet_op; first | go_big_quiet_on | (refine ⟨_, fun _ _ => rfl, ?_⟩; go_big_quiet_on))
          first | go_big_quiet_skip | (go_big_quiet_want; go_big_quiet_op; first | go_big_quiet_on | (refine ⟨_, fun _ _ => rfl, ?_⟩; go_big_quiet_on))
          go_big_quiet_want; go_big_quiet_op; first | go_big_quiet_on | (refine ⟨_, fun _ _ => rfl, ?_⟩; go_big_quiet_on)
          refine wpQuiet_nil ?_
          intro X hX
          go_wp2_with fail
          go_ret
          exact ⟨by rw [HV.out]; rfl, hb.trans ((HL2.out.below.trans (hX.mono HL2.out.below.size)).mono hb.size)⟩
        have b5 : decide (sz ≤ (dt.size : Int)) = false := decide_eq_false h5
        rcases k with _ | m
        · have HT := Lib.hid (HNx.out (by rw [HE.out]; unfold seB; simp [c0, c1, c2, c3, c4, c5, HQ.out, H4.out, show q3 < sz by have := H4.out; omega]))
          have e0 : decide ((0 : Int) < ((0 : Nat) : Int)) = false := rfl
          clear HNo HNx HE HU HK HI
          obtain ⟨m, y, HY⟩ : ∃ (m : Nat) (y : Se), Hid (∀ (j : Nat) v, (seL y)[j]? = some v → w2.cell? ⟨b, o + m * 7 + j, none⟩ = some v) := ⟨0, ⟨src, pgn, sq, nx, sz, dt, ag⟩, Lib.hid (grownCells lB HCs.out HL2.out.below)⟩
          refine wp_region_quiet (C := fun W => Below w2.heap.size w2 W) (by kernel_rfl) (by kernel_rfl) (Below.refl _ _).drew ?_
          dsimp only
          go_big_quiet_want; go_big_quiet_op; first | go_big_quiet_on | (refine ⟨_, fun _ _ => rfl, ?_⟩; go_big_quiet_on)
          go_big_quiet_want; refine ⟨.string dt, fun W hW => (quietLoadOne 9 (.tmp 52) rfl R1 5 rfl _ (rowCells (HL2.out.get (.head _)) hW 5 _ rfl) _ Tryz.underlying9 rfl), ?_⟩; simp only [Act.put, List.setIfInBounds_toArray, List.set_cons_zero, List.set_cons_succ]; go_big_quiet_on
          go_big_quiet_want; go_big_quiet_op; first | go_big_quiet_on | (refine ⟨_, fun _ _ => rfl, ?_⟩; go_big_quiet_on)
          go_big_quiet_want; go_big_quiet_op; first | go_big_quiet_on | (refine ⟨_, fun _ _ => rfl, ?_⟩; go_big_quiet_on)
          go_big_quiet_want; refine ⟨.int .i64 nx, fun W hW => (quietLoadOne 2 (.tmp 55) rfl R1 3 rfl _ (rowCells (HL2.out.get (.head _)) hW 3 _ rfl) _ Tryz.underlying2 rfl), ?_⟩; simp only [Act.put, List.setIfInBounds_toArray, List.set_cons_zero, List.set_cons_succ]; go_big_quiet_on
          go_big_quiet_want; go_big_quiet_op; first | go_big_quiet_on | (refine ⟨_, fun _ _ => rfl, ?_⟩; go_big_quiet_on)
          go_big_quiet_want; go_big_quiet_op; first | go_big_quiet_on | (refine ⟨_, fun _ _ => rfl, ?_⟩; go_big_quiet_on)
          go_big_quiet_want; go_big_quiet_op; first | go_big_quiet_on | (refine ⟨_, fun _ _ => rfl, ?_⟩; go_big_quiet_on)
          go_big_quiet_want; go_big_quiet_op; first | go_big_quiet_on | (refine ⟨_, fun _ _ => rfl, ?_⟩; go_big_quiet_on)
          go_big_quiet_want; go_big_quiet_op; first | go_big_quiet_on | (refine ⟨_, fun _ _ => rfl, ?_⟩; go_big_quiet_on)
          first | go_big_quiet_skip | (go_big_quiet_want; go_big_quiet_op; first | go_big_quiet_on | (refine ⟨_, fun _ _ => rfl, ?_⟩; go_big_quiet_on))
          first | go_big_quiet_skip | (go_big_quiet_want; refine ⟨.string dt, fun W hW => (quietLoadOne 9 (.tmp 62) rfl R1 5 rfl _ (rowCells (HL2.out.get (.head _)) hW 5 _ rfl) _ Tryz.underlying9 rfl), ?_⟩; simp only [Act.put, List.setIfInBounds_toArray, List.set_cons_zero, List.set_cons_succ]; go_big_quiet_on)
          first | go_big_quiet_skip | (go_big_quiet_want; go_big_quiet_op; first | go_big_quiet_on | (refine ⟨_, fun _ _ => rfl, ?_⟩; go_big_quiet_on))
          first | go_big_quiet_skip | (go_big_quiet_want; go_big_quiet_op; first | go_big_quiet_on | (refine ⟨_, fun _ _ => rfl, ?_⟩; go_big_quiet_on))
          first | go_big_quiet_skip | (go_big_quiet_want; refine ⟨.int .i64 sz, fun W hW => (quietLoadOne 2 (.tmp 65) rfl R1 4 rfl _ (rowCells (HL2.out.get (.head _)) hW 4 _ rfl) _ Tryz.underlying2 rfl), ?_⟩; simp only [Act.put, List.setIfInBounds_toArray, List.set_cons_zero, List.set_cons_succ]; go_big_quiet_on)
          first | go_big_quiet_skip | (go_big_quiet_want; go_big_quiet_op; first | go_big_quiet_on | (refine ⟨_, fun _ _ => rfl, ?_⟩; go_big_quiet_on))
          go_big_quiet_want; go_big_quiet_op; first | go_big_quiet_on | (refine ⟨_, fun _ _ => rfl, ?_⟩; go_big_quiet_on)
          go_big_quiet_want; go_big_quiet_op; first | go_big_quiet_on | (refine ⟨_, fun _ _ => rfl, ?_⟩; go_big_quiet_on)
          first | go_big_quiet_skip | (go_big_quiet_want; go_big_quiet_op; first | go_big_quiet_on | (refine ⟨_, fun _ _ => rfl, ?_⟩; go_big_quiet_on))
          first | go_big_quiet_skip | (go_big_quiet_want; go_big_quiet_op; first | go_big_quiet_on | (refine ⟨_, fun _ _ => rfl, ?_⟩; go_big_quiet_on))
          first | go_big_quiet_skip | (go_big_quiet_want; go_big_quiet_op; first | go_big_quiet_on | (refine ⟨_, fun _ _ => rfl, ?_⟩; go_big_quiet_on))
          first | go_big_quiet_skip | (go_big_quiet_want; go_big_quiet_op; first | go_big_quiet_on | (refine ⟨_, fun _ _ => rfl, ?_⟩; go_big_quiet_on))
          first | go_big_quiet_skip | (go_big_quiet_want; go_big_quiet_op; first | go_big_quiet_on | (refine ⟨_, fun _ _ => rfl, ?_⟩; go_big_quiet_on))
          first | go_big_quiet_skip | (go_big_quiet_want; go_big_quiet_op; first | go_big_quiet_on | (refine ⟨_, fun _ _ => rfl, ?_⟩; go_big_quiet_on))
          first | go_big_quiet_skip | (go_big_quiet_want; go_big_quiet_op; first | go_big_quiet_on | (refine ⟨_, fun _ _ => rfl, ?_⟩; go_big_quiet_on))
          first | go_big_quiet_skip | (go_big_quiet_want; refine ⟨.agg (seL y).toArray, fun W hW => (quietLoadCells 159 (.tmp 76) rfl b (o + m * 7) rfl (seL y) (grownCells lY HY.out hW) _ Tryz.underlying159 rfl (by kernel_rfl)), ?_⟩; simp only [Act.put, List.setIfInBounds_toArray, List.set_cons_zero, List.set_cons_succ]; go_big_quiet_on)
          first | go_big_quiet_skip | (go_big_quiet_want; go_big_quiet_op; first | go_big_quiet_on | (refine ⟨_, fun _ _ => rfl, ?_⟩; go_big_quiet_on))
          first | go_big_quiet_skip | (go_big_quiet_want; refine ⟨.int .i64 src, fun W hW => (quietLoadOne 2 (.tmp 78) rfl R1 0 rfl _ (rowCells (HL2.out.get (.head _)) hW 0 _ rfl) _ Tryz.underlying2 rfl), ?_⟩; simp only [Act.put, List.setIfInBounds_toArray, List.set_cons_zero, List.set_cons_succ]; go_big_quiet_on)
          first | go_big_quiet_skip | (go_big_quiet_want; go_big_quiet_op; first | go_big_quiet_on | (refine ⟨_, fun _ _ => rfl, ?_⟩; go_big_quiet_on))
          first | go_big_quiet_skip | (go_big_quiet_want; refine ⟨.int .i64 pgn, fun W hW => (quietLoadOne 2 (.tmp 80) rfl R1 1 rfl _ (rowCells (HL2.out.get (.head _)) hW 1 _ rfl) _ Tryz.underlying2 rfl), ?_⟩; simp only [Act.put, List.setIfInBounds_toArray, List.set_cons_zero, List.set_cons_succ]; go_big_quiet_on)
          first | go_big_quiet_skip | (go_big_quiet_want; go_big_quiet_op; refine ⟨_, fun W hW => quietCall hW (l06Less_any y src pgn W), ?_⟩; go_big_quiet_on)
          first | go_big_quiet_skip | (go_big_quiet_want; go_big_quiet_op; first | go_big_quiet_on | (refine ⟨_, fun _ _ => rfl, ?_⟩; go_big_quiet_on))
          first | go_big_quiet_skip | (go_big_quiet_want; go_big_quiet_op; first | go_big_quiet_on | (refine ⟨_, fun _ _ => rfl, ?_⟩; go_big_quiet_on))
          go_big_quiet_want; go_big_quiet_op; first | go_big_quiet_on | (refine ⟨_, fun _ _ => rfl, ?_⟩; go_big_quiet_on)
          refine wpQuiet_nil ?_
          intro X hX
          go_wp2_with fail
          go_roundw
          case rel => exact ⟨0 + 1, by go_num, by omega, HT.out, hb.trans ((HL2.out.below.trans (hX.mono HL2.out.below.size)).mono hb.size)⟩
          case measure => simp [intOf]; omega
        have e0 : decide ((0 : Int) < ((m + 1 : Nat) : Int)) = true := decide_eq_true (by omega)
        have e1 : IntKind.i64.wrap (((m + 1 : Nat) : Int) - 1) = (m : Int) := by rw [IntWalk.i64_in _ (by omega)]; omega
        have hm1 : (0 : Int) ≤ (m : Int) := by omega
        have hm2 : (m : Int) < (N : Int) := by omega
        have HY := Lib.hid (grownCells lB (HCp.out m rfl) HL2.out.below)
        rw [show m + 1 - 1 = m by omega] at HE
        generalize seAt l m = y at *
        rcases c7 : lessB y src pgn
        · have HV := Lib.hid (HNo.out (by rw [HE.out]; unfold seB; simp [c0, c1, c2, c3, c4, c5, HQ.out, H4.out, c7, show q3 < sz by have := H4.out; omega]))
          clear HNo HNx HE HU HK HI
          refine wp_region_quiet (C := fun W => Below w2.heap.size w2 W) (by kernel_rfl) (by kernel_rfl) (Below.refl _ _).drew ?_
          dsimp only
          go_big_quiet_want; go_big_quiet_op; first | go_big_quiet_on | (refine ⟨_, fun _ _ => rfl, ?_⟩; go_big_quiet_on)
          go_big_quiet_want; refine ⟨.string dt, fun W hW => (quietLoadOne 9 (.tmp 52) rfl R1 5 rfl _ (rowCells (HL2.out.get (.head _)) hW 5 _ rfl) _ Tryz.underlying9 rfl), ?_⟩; simp only [Act.put, List.setIfInBounds_toArray, List.set_cons_zero, List.set_cons_succ]; go_big_quiet_on
          go_big_quiet_want; go_big_quiet_op; first | go_big_quiet_on | (refine ⟨_, fun _ _ => rfl, ?_⟩; go_big_quiet_on)
          go_big_quiet_want; go_big_quiet_op; first | go_big_quiet_on | (refine ⟨_, fun _ _ => rfl, ?_⟩; go_big_quiet_on)
          go_big_quiet_want; refine ⟨.int .i64 nx, fun W hW => (quietLoadOne 2 (.tmp 55) rfl R1 3 rfl _ (rowCells (HL2.out.get (.head _)) hW 3 _ rfl) _ Tryz.underlying2 rfl), ?_⟩; simp only [Act.put, List.setIfInBounds_toArray, List.set_cons_zero, List.set_cons_succ]; go_big_quiet_on
          go_big_quiet_want; go_big_quiet_op; first | go_big_quiet_on | (refine ⟨_, fun _ _ => rfl, ?_⟩; go_big_quiet_on)
          go_big_quiet_want; go_big_quiet_op; first | go_big_quiet_on | (refine ⟨_, fun _ _ => rfl, ?_⟩; go_big_quiet_on)
          go_big_quiet_want; go_big_quiet_op; first | go_big_quiet_on | (refine ⟨_, fun _ _ => rfl, ?_⟩; go_big_quiet_on)
          go_big_quiet_want; go_big_quiet_op; first | go_big_quiet_on | (refine ⟨_, fun _ _ => rfl, ?_⟩; go_big_quiet_on)
          go_big_quiet_want; go_big_quiet_op; first | go_big_quiet_on | (refine ⟨_, fun _ _ => rfl, ?_⟩; go_big_quiet_on)
          first | go_big_quiet_skip | (go_big_quiet_want; go_big_quiet_op; first | go_big_quiet_on | (refine ⟨_, fun _ _ => rfl, ?_⟩; go_big_quiet_on))
          first | go_big_quiet_skip | (go_big_quiet_want; refine ⟨.string dt, fun W hW => (quietLoadOne 9 (.tmp 62) rfl R1 5 rfl _ (rowCells (HL2.out.get (.head _)) hW 5 _ rfl) _ Tryz.underlying9 rfl), ?_⟩; simp only [Act.put, List.setIfInBounds_toArray, List.set_cons_zero, List.set_cons_succ]; go_big_quiet_on)
          first | go_big_quiet_skip | (go_big_quiet_want; go_big_quiet_op; first | go_big_quiet_on | (refine ⟨_, fun _ _ => rfl, ?_⟩; go_big_quiet_on))
          first | go_big_quiet_skip | (go_big_quiet_want; go_big_quiet_op; first | go_big_quiet_on | (refine ⟨_, fun _ _ => rfl, ?_⟩; go_big_quiet_on))
          first | go_big_quiet_skip | (go_big_quiet_want; refine ⟨.int .i64 sz, fun W hW => (quietLoadOne 2 (.tmp 65) rfl R1 4 rfl _ (rowCells (HL2.out.get (.head _)) hW 4 _ rfl) _ Tryz.underlying2 rfl), ?_⟩; simp only [Act.put, List.setIfInBounds_toArray, List.set_cons_zero, List.set_cons_succ]; go_big_quiet_on)
          first | go_big_quiet_skip | (go_big_quiet_want; go_big_quiet_op; first | go_big_quiet_on | (refine ⟨_, fun _ _ => rfl, ?_⟩; go_big_quiet_on))
          go_big_quiet_want; go_big_quiet_op; first | go_big_quiet_on | (refine ⟨_, fun _ _ => rfl, ?_⟩; go_big_quiet_on)
          go_big_quiet_want; go_big_quiet_op; first | go_big_quiet_on | (refine ⟨_, fun _ _ => rfl, ?_⟩; go_big_quiet_on)
          first | go_big_quiet_skip | (go_big_quiet_want; go_big_quiet_op; first | go_big_quiet_on | (refine ⟨_, fun _ _ => rfl, ?_⟩; go_big_quiet_on))
          first | go_big_quiet_skip | (go_big_quiet_want; go_big_quiet_op; first | go_big_quiet_on | (refine ⟨_, fun _ _ => rfl, ?_⟩; go_big_quiet_on))
          first | go_big_quiet_skip | (go_big_quiet_want; go_big_quiet_op; first | go_big_quiet_on | (refine ⟨_, fun _ _ => rfl, ?_⟩; go_big_quiet_on))
          first | go_big_quiet_skip | (go_big_quiet_want; go_big_quiet_op; first | go_big_quiet_on | (refine ⟨_, fun _ _ => rfl, ?_⟩; go_big_quiet_on))
          first | go_big_quiet_skip | (go_big_quiet_want; go_big_quiet_op; first | go_big_quiet_on | (refine ⟨_, fun _ _ => rfl, ?_⟩; go_big_quiet_on))
          first | go_big_quiet_skip | (go_big_quiet_want; go_big_quiet_op; first | go_big_quiet_on | (refine ⟨_, fun _ _ => rfl, ?_⟩; go_big_quiet_on))
          first | go_big_quiet_skip | (go_big_quiet_want; go_big_quiet_op; first | go_big_quiet_on | (refine ⟨_, fun _ _ => rfl, ?_⟩; go_big_quiet_on))
          first | go_big_quiet_skip | (go_big_quiet_want; refine ⟨.agg (seL y).toArray, fun W hW => (quietLoadCells 159 (.tmp 76) rfl b (o + m * 7) rfl (seL y) (grownCells lY HY.out hW) _ Tryz.underlying159 rfl (by kernel_rfl)), ?_⟩; simp only [Act.put, List.setIfInBounds_toArray, List.set_cons_zero, List.set_cons_succ]; go_big_quiet_on)
          first | go_big_quiet_skip | (go_big_quiet_want; go_big_quiet_op; first | go_big_quiet_on | (refine ⟨_, fun _ _ => rfl, ?_⟩; go_big_quiet_on))
          first | go_big_quiet_skip | (go_big_quiet_want; refine ⟨.int .i64 src, fun W hW => (quietLoadOne 2 (.tmp 78) rfl R1 0 rfl _ (rowCells (HL2.out.get (.head _)) hW 0 _ rfl) _ Tryz.underlying2 rfl), ?_⟩; simp only [Act.put, List.setIfInBounds_toArray, List.set_cons_zero, List.set_cons_succ]; go_big_quiet_on)
          first | go_big_quiet_skip | (go_big_quiet_want; go_big_quiet_op; first | go_big_quiet_on | (refine ⟨_, fun _ _ => rfl, ?_⟩; go_big_quiet_on))
          first | go_big_quiet_skip | (go_big_quiet_want; refine ⟨.int .i64 pgn, fun W hW => (quietLoadOne 2 (.tmp 80) rfl R1 1 rfl _ (rowCells (HL2.out.get (.head _)) hW 1 _ rfl) _ Tryz.underlying2 rfl), ?_⟩; simp only [Act.put, List.setIfInBounds_toArray, List.set_cons_zero, List.set_cons_succ]; go_big_quiet_on)
          first | go_big_quiet_skip | (go_big_quiet_want; go_big_quiet_op; refine ⟨_, fun W hW => (by have := quietCall hW (l06Less_any y src pgn W); rw [c7] at this; exact this), ?_⟩; go_big_quiet_on)
          first | go_big_quiet_skip | (go_big_quiet_want; go_big_quiet_op; first | go_big_quiet_on | (refine ⟨_, fun _ _ => rfl, ?_⟩; go_big_quiet_on))
          first | go_big_quiet_skip | (go_big_quiet_want; go_big_quiet_op; first | go_big_quiet_on | (refine ⟨_, fun _ _ => rfl, ?_⟩; go_big_quiet_on))
          go_big_quiet_want; go_big_quiet_op; first | go_big_quiet_on | (refine ⟨_, fun _ _ => rfl, ?_⟩; go_big_quiet_on)
          refine wpQuiet_nil ?_
          intro X hX
          go_wp2_with fail
          go_ret
          exact ⟨by rw [HV.out]; rfl, hb.trans ((HL2.out.below.trans (hX.mono HL2.out.below.size)).mono hb.size)⟩
        · have HT := Lib.hid (HNx.out (by rw [HE.out]; unfold seB; simp [c0, c1, c2, c3, c4, c5, HQ.out, H4.out, c7, show q3 < sz by have := H4.out; omega]))
          clear HNo HNx HE HU HK HI
          refine wp_region_quiet (C := fun W => Below w2.heap.size w2 W) (by kernel_rfl) (by kernel_rfl) (Below.refl _ _).drew ?_
          dsimp only
          go_big_quiet_want; go_big_quiet_op; first | go_big_quiet_on | (refine ⟨_, fun _ _ => rfl, ?_⟩; go_big_quiet_on)
          go_big_quiet_want; refine ⟨.string dt, fun W hW => (quietLoadOne 9 (.tmp 52) rfl R1 5 rfl _ (rowCells (HL2.out.get (.head _)) hW 5 _ rfl) _ Tryz.underlying9 rfl), ?_⟩; simp only [Act.put, List.setIfInBounds_toArray, List.set_cons_zero, List.set_cons_succ]; go_big_quiet_on
          go_big_quiet_want; go_big_quiet_op; first | go_big_quiet_on | (refine ⟨_, fun _ _ => rfl, ?_⟩; go_big_quiet_on)
          go_big_quiet_want; go_big_quiet_op; first | go_big_quiet_on | (refine ⟨_, fun _ _ => rfl, ?_⟩; go_big_quiet_on)
          go_big_quiet_want; refine ⟨.int .i64 nx, fun W hW => (quietLoadOne 2 (.tmp 55) rfl R1 3 rfl _ (rowCells (HL2.out.get (.head _)) hW 3 _ rfl) _ Tryz.underlying2 rfl), ?_⟩; simp only [Act.put, List.setIfInBounds_toArray, List.set_cons_zero, List.set_cons_succ]; go_big_quiet_on
          go_big_quiet_want; go_big_quiet_op; first | go_big_quiet_on | (refine ⟨_, fun _ _ => rfl, ?_⟩; go_big_quiet_on)
          go_big_quiet_want; go_big_quiet_op; first | go_big_quiet_on | (refine ⟨_, fun _ _ => rfl, ?_⟩; go_big_quiet_on)
          go_big_quiet_want; go_big_quiet_op; first | go_big_quiet_on | (refine ⟨_, fun _ _ => rfl, ?_⟩; go_big_quiet_on)
          go_big_quiet_want; go_big_quiet_op; first | go_big_quiet_on | (refine ⟨_, fun _ _ => rfl, ?_⟩; go_big_quiet_on)
          go_big_quiet_want; go_big_quiet_op; first | go_big_quiet_on | (refine ⟨_, fun _ _ => rfl, ?_⟩; go_big_quiet_on)
          first | go_big_quiet_skip | (go_big_quiet_want; go_big_quiet_op; first | go_big_quiet_on | (refine ⟨_, fun _ _ => rfl, ?_⟩; go_big_quiet_on))
          first | go_big_quiet_skip | (go_big_quiet_want; refine ⟨.string dt, fun W hW => (quietLoadOne 9 (.tmp 62) rfl R1 5 rfl _ (rowCells (HL2.out.get (.head _)) hW 5 _ rfl) _ Tryz.underlying9 rfl), ?_⟩; simp only [Act.put, List.setIfInBounds_toArray, List.set_cons_zero, List.set_cons_succ]; go_big_quiet_on)
          first | go_big_quiet_skip | (go_big_quiet_want; go_big_quiet_op; first | go_big_quiet_on | (refine ⟨_, fun _ _ => rfl, ?_⟩; go_big_quiet_on))
          first | go_big_quiet_skip | (go_big_quiet_want; go_big_quiet_op; first | go_big_quiet_on | (refine ⟨_, fun _ _ => rfl, ?_⟩; go_big_quiet_on))
          first | go_big_quiet_skip | (go_big_quiet_want; refine ⟨.int .i64 sz, fun W hW => (quietLoadOne 2 (.tmp 65) rfl R1 4 rfl _ (rowCells (HL2.out.get (.head _)) hW 4 _ rfl) _ Tryz.underlying2 rfl), ?_⟩; simp only [Act.put, List.setIfInBounds_toArray, List.set_cons_zero, List.set_cons_succ]; go_big_quiet_on)
          first | go_big_quiet_skip | (go_big_quiet_want; go_big_quiet_op; first | go_big_quiet_on | (refine ⟨_, fun _ _ => rfl, ?_⟩; go_big_quiet_on))
          go_big_quiet_want; go_big_quiet_op; first | go_big_quiet_on | (refine ⟨_, fun _ _ => rfl, ?_⟩; go_big_quiet_on)
          go_big_quiet_want; go_big_quiet_op; first | go_big_quiet_on | (refine ⟨_, fun _ _ => rfl, ?_⟩; go_big_quiet_on)
          first | go_big_quiet_skip | (go_big_quiet_want; go_big_quiet_op; first | go_big_quiet_on | (refine ⟨_, fun _ _ => rfl, ?_⟩; go_big_quiet_on))
          first | go_big_quiet_skip | (go_big_quiet_want; go_big_quiet_op; first | go_big_quiet_on | (refine ⟨_, fun _ _ => rfl, ?_⟩; go_big_quiet_on))
          first | go_big_quiet_skip | (go_big_quiet_want; go_big_quiet_op; first | go_big_quiet_on | (refine ⟨_, fun _ _ => rfl, ?_⟩; go_big_quiet_on))
          first | go_big_quiet_skip | (go_big_quiet_want; go_big_quiet_op; first | go_big_quiet_on | (refine ⟨_, fun _ _ => rfl, ?_⟩; go_big_quiet_on))
          first | go_big_quiet_skip | (go_big_quiet_want; go_big_quiet_op; first | go_big_quiet_on | (refine ⟨_, fun _ _ => rfl, ?_⟩; go_big_quiet_on))
          first | go_big_quiet_skip | (go_big_quiet_want; go_big_quiet_op; first | go_big_quiet_on | (refine ⟨_, fun _ _ => rfl, ?_⟩; go_big_quiet_on))
          first | go_big_quiet_skip | (go_big_quiet_want; go_big_quiet_op; first | go_big_quiet_on | (refine ⟨_, fun _ _ => rfl, ?_⟩; go_big_quiet_on))
          first | go_big_quiet_skip | (go_big_quiet_want; refine ⟨.agg (seL y).toArray, fun W hW => (quietLoadCells 159 (.tmp 76) rfl b (o + m * 7) rfl (seL y) (grownCells lY HY.out hW) _ Tryz.underlying159 rfl (by kernel_rfl)), ?_⟩; simp only [Act.put, List.setIfInBounds_toArray, List.set_cons_zero, List.set_cons_succ]; go_big_quiet_on)
          first | go_big_quiet_skip | (go_big_quiet_want; go_big_quiet_op; first | go_big_quiet_on | (refine ⟨_, fun _ _ => rfl, ?_⟩; go_big_quiet_on))
          first | go_big_quiet_skip | (go_big_quiet_want; refine ⟨.int .i64 src, fun W hW => (quietLoadOne 2 (.tmp 78) rfl R1 0 rfl _ (rowCells (HL2.out.get (.head _)) hW 0 _ rfl) _ Tryz.underlying2 rfl), ?_⟩; simp only [Act.put, List.setIfInBounds_toArray, List.set_cons_zero, List.set_cons_succ]; go_big_quiet_on)
          first | go_big_quiet_skip | (go_big_quiet_want; go_big_quiet_op; first | go_big_quiet_on | (refine ⟨_, fun _ _ => rfl, ?_⟩; go_big_quiet_on))
          first | go_big_quiet_skip | (go_big_quiet_want; refine ⟨.int .i64 pgn, fun W hW => (quietLoadOne 2 (.tmp 80) rfl R1 1 rfl _ (rowCells (HL2.out.get (.head _)) hW 1 _ rfl) _ Tryz.underlying2 rfl), ?_⟩; simp only [Act.put, List.setIfInBounds_toArray, List.set_cons_zero, List.set_cons_succ]; go_big_quiet_on)
          first | go_big_quiet_skip | (go_big_quiet_want; go_big_quiet_op; refine ⟨_, fun W hW => (by have := quietCall hW (l06Less_any y src pgn W); rw [c7] at this; exact this), ?_⟩; go_big_quiet_on)
          first | go_big_quiet_skip | (go_big_quiet_want; go_big_quiet_op; first | go_big_quiet_on | (refine ⟨_, fun _ _ => rfl, ?_⟩; go_big_quiet_on))
          first | go_big_quiet_skip | (go_big_quiet_want; go_big_quiet_op; first | go_big_quiet_on | (refine ⟨_, fun _ _ => rfl, ?_⟩; go_big_quiet_on))
          go_big_quiet_want; go_big_quiet_op; first | go_big_quiet_on | (refine ⟨_, fun _ _ => rfl, ?_⟩; go_big_quiet_on)
          refine wpQuiet_nil ?_
          intro X hX
          go_wp2_with fail
          go_roundw
          case rel => exact ⟨m + 1 + 1, by go_num, by omega, HT.out, hb.trans ((HL2.out.below.trans (hX.mono HL2.out.below.size)).mono hb.size)⟩
          case measure => simp [intOf]; omega
      · have b4 : ((dt.size : Int) != q3) = true := by simpa using h4
        have HV := Lib.hid (HNo.out (by rw [HE.out]; unfold seB; simp [c0, c1, c2, c3, c4, c5, HQ.out, h4]))
        clear HNo HNx HE HU HK HI
        obtain ⟨m, y, HY⟩ : ∃ (m : Nat) (y : Se), Hid (∀ (j : Nat) v, (seL y)[j]? = some v → w2.cell? ⟨b, o + m * 7 + j, none⟩ = some v) := ⟨k, ⟨src, pgn, sq, nx, sz, dt, ag⟩, Lib.hid (grownCells lB HCs.out HL2.out.below)⟩
        refine wp_region_quiet (C := fun W => Below w2.heap.size w2 W) (by kernel_rfl) (by kernel_rfl) (Below.refl _ _).drew ?_
        dsimp only
        go_big_quiet_want; go_big_quiet_op; first | go_big_quiet_on | (refine ⟨_, fun _ _ => rfl, ?_⟩; go_big_quiet_on)
        go_big_quiet_want; refine ⟨.string dt, fun W hW => (quietLoadOne 9 (.tmp 52) rfl R1 5 rfl _ (rowCells (HL2.out.get (.head _)) hW 5 _ rfl) _ Tryz.underlying9 rfl), ?_⟩; simp only [Act.put, List.setIfInBounds_toArray, List.set_cons_zero, List.set_cons_succ]; go_big_quiet_on
        go_big_quiet_want; go_big_quiet_op; first | go_big_quiet_on | (refine ⟨_, fun _ _ => rfl, ?_⟩; go_big_quiet_on)
        go_big_quiet_want; go_big_quiet_op; first | go_big_quiet_on | (refine ⟨_, fun _ _ => rfl, ?_⟩; go_big_quiet_on)
        go_big_quiet_want; refine ⟨.int .i64 nx, fun W hW => (quietLoadOne 2 (.tmp 55) rfl R1 3 rfl _ (rowCells (HL2.out.get (.head _)) hW 3 _ rfl) _ Tryz.underlying2 rfl), ?_⟩; simp only [Act.put, List.setIfInBounds_toArray, List.set_cons_zero, List.set_cons_succ]; go_big_quiet_on
        go_big_quiet_want; go_big_quiet_op; first | go_big_quiet_on | (refine ⟨_, fun _ _ => rfl, ?_⟩; go_big_quiet_on)
        go_big_quiet_want; go_big_quiet_op; first | go_big_quiet_on | (refine ⟨_, fun _ _ => rfl, ?_⟩; go_big_quiet_on)
        go_big_quiet_want; go_big_quiet_op; first | go_big_quiet_on | (refine ⟨_, fun _ _ => rfl, ?_⟩; go_big_quiet_on)
        go_big_quiet_want; go_big_quiet_op; first | go_big_quiet_on | (refine ⟨_, fun _ _ => rfl, ?_⟩; go_big_quiet_on)
        go_big_quiet_want; go_big_quiet_op; first | go_big_quiet_on | (refine ⟨_, fun _ _ => rfl, ?_⟩; go_big_quiet_on)
        first | go_big_quiet_skip | (go_big_quiet_want; go_big_quiet_op; first | go_big_quiet_on | (refine ⟨_, fun _ _ => rfl, ?_⟩; go_big_quiet_on))
        first | go_big_quiet_skip | (go_big_quiet_want; refine ⟨.string dt, fun W hW => (quietLoadOne 9 (.tmp 62) rfl R1 5 rfl _ (rowCells (HL2.out.get (.head _)) hW 5 _ rfl) _ Tryz.underlying9 rfl), ?_⟩; simp only [Act.put, List.setIfInBounds_toArray, List.set_cons_zero, List.set_cons_succ]; go_big_quiet_on)
        first | go_big_quiet_skip | (go_big_quiet_want; go_big_quiet_op; first | go_big_quiet_on | (refine ⟨_, fun _ _ => rfl, ?_⟩; go_big_quiet_on))
        first | go_big_quiet_skip | (go_big_quiet_want; go_big_quiet_op; first | go_big_quiet_on | (refine ⟨_, fun _ _ => rfl, ?_⟩; go_big_quiet_on))
        first | go_big_quiet_skip | (go_big_quiet_want; refine ⟨.int .i64 sz, fun W hW => (quietLoadOne 2 (.tmp 65) rfl R1 4 rfl _ (rowCells (HL2.out.get (.head _)) hW 4 _ rfl) _ Tryz.underlying2 rfl), ?_⟩; simp only [Act.put, List.setIfInBounds_toArray, List.set_cons_zero, List.set_cons_succ]; go_big_quiet_on)
        first | go_big_quiet_skip | (go_big_quiet_want; go_big_quiet_op; first | go_big_quiet_on | (refine ⟨_, fun _ _ => rfl, ?_⟩; go_big_quiet_on))
        go_big_quiet_want; go_big_quiet_op; first | go_big_quiet_on | (refine ⟨_, fun _ _ => rfl, ?_⟩; go_big_quiet_on)
        go_big_quiet_want; go_big_quiet_op; first | go_big_quiet_on | (refine ⟨_, fun _ _ => rfl, ?_⟩; go_big_quiet_on)
        first | go_big_quiet_skip | (go_big_quiet_want; go_big_quiet_op; first | go_big_quiet_on | (refine ⟨_, fun _ _ => rfl, ?_⟩; go_big_quiet_on))
        first | go_big_quiet_skip | (go_big_quiet_want; go_big_quiet_op; first | go_big_quiet_on | (refine ⟨_, fun _ _ => rfl, ?_⟩; go_big_quiet_on))
        first | go_big_quiet_skip | (go_big_quiet_want; go_big_quiet_op; first | go_big_quiet_on | (refine ⟨_, fun _ _ => rfl, ?_⟩; go_big_quiet_on))
        first | go_big_quiet_skip | (go_big_quiet_want; go_big_quiet_op; first | go_big_quiet_on | (refine ⟨_, fun _ _ => rfl, ?_⟩; go_big_quiet_on))
        first | go_big_quiet_skip | (go_big_quiet_want; go_big_quiet_op; first | go_big_quiet_on | (refine ⟨_, fun _ _ => rfl, ?_⟩; go_big_quiet_on))
        first | go_big_quiet_skip | (go_big_quiet_want; go_big_quiet_op; first | go_big_quiet_on | (refine ⟨_, fun _ _ => rfl, ?_⟩; go_big_quiet_on))
        first | go_big_quiet_skip | (go_big_quiet_want; go_big_quiet_op; first | go_big_quiet_on | (refine ⟨_, fun _ _ => rfl, ?_⟩; go_big_quiet_on))
        first | go_big_quiet_skip | (go_big_quiet_want; refine ⟨.agg (seL y).toArray, fun W hW => (quietLoadCells 159 (.tmp 76) rfl b (o + m * 7) rfl (seL y) (grownCells lY HY.out hW) _ Tryz.underlying159 rfl (by kernel_rfl)), ?_⟩; simp only [Act.put, List.setIfInBounds_toArray, List.set_cons_zero, List.set_cons_succ]; go_big_quiet_on)
        first | go_big_quiet_skip | (go_big_quiet_want; go_big_quiet_op; first | go_big_quiet_on | (refine ⟨_, fun _ _ => rfl, ?_⟩; go_big_quiet_on))
        first | go_big_quiet_skip | (go_big_quiet_want; refine ⟨.int .i64 src, fun W hW => (quietLoadOne 2 (.tmp 78) rfl R1 0 rfl _ (rowCells (HL2.out.get (.head _)) hW 0 _ rfl) _ Tryz.underlying2 rfl), ?_⟩; simp only [Act.put, List.setIfInBounds_toArray, List.set_cons_zero, List.set_cons_succ]; go_big_quiet_on)
        first | go_big_quiet_skip | (go_big_quiet_want; go_big_quiet_op; first | go_big_quiet_on | (refine ⟨_, fun _ _ => rfl, ?_⟩; go_big_quiet_on))
        first | go_big_quiet_skip | (go_big_quiet_want; refine ⟨.int .i64 pgn, fun W hW => (quietLoadOne 2 (.tmp 80) rfl R1 1 rfl _ (rowCells (HL2.out.get (.head _)) hW 1 _ rfl) _ Tryz.underlying2 rfl), ?_⟩; simp only [Act.put, List.setIfInBounds_toArray, List.set_cons_zero, List.set_cons_succ]; go_big_quiet_on)
        first | go_big_quiet_skip | (go_big_quiet_want; go_big_quiet_op; refine ⟨_, fun W hW => quietCall hW (l06Less_any y src pgn W), ?_⟩; go_big_quiet_on)
        first | go_big_quiet_skip | (go_big_quiet_want; go_big_quiet_op; first | go_big_quiet_on | (refine ⟨_, fun _ _ => rfl, ?_⟩; go_big_quiet_on))
        first | go_big_quiet_skip | (go_big_quiet_want; go_big_quiet_op; first | go_big_quiet_on | (refine ⟨_, fun _ _ => rfl, ?_⟩; go_big_quiet_on))
        go_big_quiet_want; go_big_quiet_op; first | go_big_quiet_on | (refine ⟨_, fun _ _ => rfl, ?_⟩; go_big_quiet_on)
        refine wpQuiet_nil ?_
        intro X hX
        go_wp2_with fail
        go_ret
        exact ⟨by rw [HV.out]; rfl, hb.trans ((HL2.out.below.trans (hX.mono HL2.out.below.size)).mono hb.size)⟩
    · have hge : N ≤ k := by omega
      have HV := Lib.hid (tabB_yes (l := l) (by have := HN.out; omega) (by rw [show l.length = k by have := HN.out; omega]; exact HU.out))
      clear hkn
      go_wp2_with fail
      go_ret
      exact ⟨by rw [HV.out]; rfl, hb⟩
set_option maxRecDepth 100000 in
set_option maxHeartbeats 8000000 in
theorem implTable_any (a : Option Addr) (cap : Nat) (l : List Se) (w : World) (h : RsIn seL 7 w a l) (hok : SesOk l) (hlen : l.length ≤ maxLen) :
    Calls Tryz.prog 129 #[.slice a l.length cap] w fun e w' => e = .returned (.bool (tabB l)) ∧ Below w.heap.size w w' := by
  unfold maxLen at hlen
  by_cases hbig : 4 < l.length
  · have hd : decide ((4 : Int) < (l.length : Int)) = true := decide_eq_true (by omega)
    have HV := Lib.hid (tabB_long hbig)
    go_enter Tryz.func129, Tryz.ntmps129
    go_wp2_with fail
    go_ret
    exact ⟨by rw [HV.out]; rfl, Below.refl _ _⟩
  have hd : decide ((4 : Int) < (l.length : Int)) = false := decide_eq_false (by omega)
  have HI := Lib.hid h
  have HK := Lib.hid hok
  obtain ⟨N, hN⟩ : ∃ N, l.length = N := ⟨_, rfl⟩
  have HN := Lib.hid hN
  rw [hN] at hbig hd ⊢
  clear hlen h hok hN
  go_enter Tryz.func129, Tryz.ntmps129
  go_wp2_with fail
  go_loopw [3, 4, 10] (fun _ _ i wr => ∃ k : Nat, i = .int .i64 (k : Int) ∧ k ≤ N ∧ TabTo l k ∧ Below w.heap.size w wr) (fun _ _ i _ => N - (intOf i).toNat)
  case atStart => exact ⟨0, rfl, by omega, TabTo.zero l, Below.refl _ _⟩
  case round =>
    obtain ⟨k, rfl, hk, hup, hb⟩ := hrel
    have HU := Lib.hid hup
    clear hup
    by_cases hkn : k < N
    · have hkl : k < l.length := by have := HN.out; omega
      have hi1 : (0 : Int) ≤ (k : Int) := by omega
      have hi2 : (k : Int) < (N : Int) := by omega
      obtain ⟨b, o, rfl, hlt, hc⟩ := HI.out.at (by omega)
      have lB : b < wr.heap.size := Nat.lt_of_lt_of_le hlt hb.size
      have HCs := Lib.hid (fun j v hv => (hb.cell (p := ⟨b, _, none⟩) hlt).trans (hc k _ (seAt_some hkl) j v hv))
      have HCp := Lib.hid (fun m (hm : k = m + 1) j v hv => (hb.cell (p := ⟨b, _, none⟩) hlt).trans (hc m _ (seAt_some (l := l) (i := m) (by omega)) j v hv))
      have HNo := Lib.hid (@tabB_no l k hkl)
      have HNx := Lib.hid (@TabTo.next l k HU.out)
      have HE := Lib.hid (show okAt l k = (seB (seAt l k) && (decide (k = 0) || lessB (seAt l (k - 1)) (seAt l k).src (seAt l k).pgn)) from rfl)
      have HSe := Lib.hid (seAt_ok HK.out hkl)
      clear hc
      generalize hx : seAt l k = x at *
      obtain ⟨src, pgn, sq, nx, sz, dt, ag⟩ := x
      unfold seL at HCs
      dsimp only at *
      go_wp2_with (first
        | (refine wpList_load_cells rfl 159 (.tmp 13) rfl b (o + k * 7) rfl [.int .i64 src, .int .i64 pgn, .int .i64 sq, .int .i64 nx, .int .i64 sz, .string dt, .int .i64 ag] HCs.out _ Tryz.underlying159 rfl (by kernel_rfl) ?_)
        | (refine wpList_alloc_h rfl 159 rfl (.agg #[.int .i64 0, .int .i64 0, .int .i64 0, .int .i64 0, .int .i64 0, .string ByteArray.empty, .int .i64 0]) (by kernel_rfl) #[.int .i64 0, .int .i64 0, .int .i64 0, .int .i64 0, .int .i64 0, .string ByteArray.empty, .int .i64 0] rfl ?_; intro w1 R1 e1 g1 b1; have HL1 := Lib.hid (show Lg wr w1 [(R1, #[.int .i64 0, .int .i64 0, .int .i64 0, .int .i64 0, .int .i64 0, .string ByteArray.empty, .int .i64 0], 159)] [] from (Lg.first wr).box e1 g1 b1); clear g1 b1 e1)
        | (refine wpList_put_at rfl 159 (.tmp 4) (.tmp 14) rfl rfl (R1) 0 rfl (.agg #[.int .i64 src, .int .i64 pgn, .int .i64 sq, .int .i64 nx, .int .i64 sz, .string dt, .int .i64 ag]) rfl #[.int .i64 src, .int .i64 pgn, .int .i64 sq, .int .i64 nx, .int .i64 sz, .string dt, .int .i64 ag] rfl 159 #[.int .i64 0, .int .i64 0, .int .i64 0, .int .i64 0, .int .i64 0, .string ByteArray.empty, .int .i64 0] #[.int .i64 src, .int .i64 pgn, .int .i64 sq, .int .i64 nx, .int .i64 sz, .string dt, .int .i64 ag] (HL1.out.get (.head _)) (by kernel_rfl) (by kernel_rfl) (by kernel_rfl) (by kernel_rfl) ?_; intro w2 g2 o2; have HL2 := Lib.hid (show Lg wr w2 [(R1, #[.int .i64 src, .int .i64 pgn, .int .i64 sq, .int .i64 nx, .int .i64 sz, .string dt, .int .i64 ag], 159)] [] from HL1.out.put 0 rfl g2 o2 (fun _ h => nomatch h) (fun _ h => nomatch h) rfl); clear g2 o2))
      have lY : b < w2.heap.size := Nat.lt_of_lt_of_le lB HL2.out.below.size
      rcases c0 : seB ⟨src, pgn, sq, nx, sz, dt, ag⟩
      · have HV := Lib.hid (HNo.out (by rw [HE.out, c0]; rfl))
        clear HNo HNx HE HU HK HI
        obtain ⟨m, y, HY⟩ : ∃ (m : Nat) (y : Se), Hid (∀ (j : Nat) v, (seL y)[j]? = some v → w2.cell? ⟨b, o + m * 7 + j, none⟩ = some v) := ⟨k, ⟨src, pgn, sq, nx, sz, dt, ag⟩, Lib.hid (grownCells lB HCs.out HL2.out.below)⟩
        refine wp_region_quiet (C := fun W => Below w2.heap.size w2 W) (by kernel_rfl) (by kernel_rfl) (Below.refl _ _).drew ?_
        dsimp only
        go_big_quiet_want; refine ⟨.agg #[.int .i64 src, .int .i64 pgn, .int .i64 sq, .int .i64 nx, .int .i64 sz, .string dt, .int .i64 ag], fun W hW => (quietLoadCells 159 (.tmp 4) rfl R1 0 rfl (seL ⟨src, pgn, sq, nx, sz, dt, ag⟩) (fun j v hv => by rw [Nat.zero_add]; exact rowCells (HL2.out.get (.head _)) hW j v (by simpa [seL] using hv)) _ Tryz.underlying159 rfl (by kernel_rfl)), ?_⟩; simp only [Act.put, List.setIfInBounds_toArray, List.set_cons_zero, List.set_cons_succ]; go_big_quiet_on
        go_big_quiet_want; go_big_quiet_op; refine ⟨_, fun W hW => (by have := quietCall hW (sessionRight_any ⟨src, pgn, sq, nx, sz, dt, ag⟩ W HSe.out); rw [c0] at this; exact this), ?_⟩; go_big_quiet_on
        go_big_quiet_want; go_big_quiet_op; first | go_big_quiet_on | (refine ⟨_, fun _ _ => rfl, ?_⟩; go_big_quiet_on)
        go_big_quiet_want; go_big_quiet_op; first | go_big_quiet_on | (refine ⟨_, fun _ _ => rfl, ?_⟩; go_big_quiet_on)
        first | go_big_quiet_skip | (go_big_quiet_want; go_big_quiet_op; first | go_big_quiet_on | (refine ⟨_, fun _ _ => rfl, ?_⟩; go_big_quiet_on))
        first | go_big_quiet_skip | (go_big_quiet_want; go_big_quiet_op; first | go_big_quiet_on | (refine ⟨_, fun _ _ => rfl, ?_⟩; go_big_quiet_on))
        first | go_big_quiet_skip | (go_big_quiet_want; go_big_quiet_op; first | go_big_quiet_on | (refine ⟨_, fun _ _ => rfl, ?_⟩; go_big_quiet_on))
        first | go_big_quiet_skip | (go_big_quiet_want; go_big_quiet_op; first | go_big_quiet_on | (refine ⟨_, fun _ _ => rfl, ?_⟩; go_big_quiet_on))
        first | go_big_quiet_skip | (go_big_quiet_want; go_big_quiet_op; first | go_big_quiet_on | (refine ⟨_, fun _ _ => rfl, ?_⟩; go_big_quiet_on))
        first | go_big_quiet_skip | (go_big_quiet_want; go_big_quiet_op; first | go_big_quiet_on | (refine ⟨_, fun _ _ => rfl, ?_⟩; go_big_quiet_on))
        first | go_big_quiet_skip | (go_big_quiet_want; go_big_quiet_op; first | go_big_quiet_on | (refine ⟨_, fun _ _ => rfl, ?_⟩; go_big_quiet_on))
        first | go_big_quiet_skip | (go_big_quiet_want; refine ⟨.agg (seL y).toArray, fun W hW => (quietLoadCells 159 (.tmp 25) rfl b (o + m * 7) rfl (seL y) (grownCells lY HY.out hW) _ Tryz.underlying159 rfl (by kernel_rfl)), ?_⟩; simp only [Act.put, List.setIfInBounds_toArray, List.set_cons_zero, List.set_cons_succ]; go_big_quiet_on)
        first | go_big_quiet_skip | (go_big_quiet_want; refine ⟨.agg #[.int .i64 src, .int .i64 pgn, .int .i64 sq, .int .i64 nx, .int .i64 sz, .string dt, .int .i64 ag], fun W hW => (quietLoadCells 159 (.tmp 4) rfl R1 0 rfl (seL ⟨src, pgn, sq, nx, sz, dt, ag⟩) (fun j v hv => by rw [Nat.zero_add]; exact rowCells (HL2.out.get (.head _)) hW j v (by simpa [seL] using hv)) _ Tryz.underlying159 rfl (by kernel_rfl)), ?_⟩; simp only [Act.put, List.setIfInBounds_toArray, List.set_cons_zero, List.set_cons_succ]; go_big_quiet_on)
        first | go_big_quiet_skip | (go_big_quiet_want; go_big_quiet_op; refine ⟨_, fun W hW => quietCall hW (bySrc_any y ⟨src, pgn, sq, nx, sz, dt, ag⟩ W), ?_⟩; go_big_quiet_on)
        first | go_big_quiet_skip | (go_big_quiet_want; go_big_quiet_op; first | go_big_quiet_on | (refine ⟨_, fun _ _ => rfl, ?_⟩; go_big_quiet_on))
        first | go_big_quiet_skip | (go_big_quiet_want; go_big_quiet_op; first | go_big_quiet_on | (refine ⟨_, fun _ _ => rfl, ?_⟩; go_big_quiet_on))
        go_big_quiet_want; go_big_quiet_op; first | go_big_quiet_on | (refine ⟨_, fun _ _ => rfl, ?_⟩; go_big_quiet_on)
        refine wpQuiet_nil ?_
        intro X hX
        go_wp2_with fail
        go_ret
        exact ⟨by rw [HV.out]; rfl, hb.trans ((HL2.out.below.trans (hX.mono HL2.out.below.size)).mono hb.size)⟩
      rcases k with _ | m
      · have HT := Lib.hid (HNx.out (by rw [HE.out, c0]; simp))
        have e0 : decide ((0 : Int) < ((0 : Nat) : Int)) = false := rfl
        clear HNo HNx HE HU HK HI
        obtain ⟨m, y, HY⟩ : ∃ (m : Nat) (y : Se), Hid (∀ (j : Nat) v, (seL y)[j]? = some v → w2.cell? ⟨b, o + m * 7 + j, none⟩ = some v) := ⟨0, ⟨src, pgn, sq, nx, sz, dt, ag⟩, Lib.hid (grownCells lB HCs.out HL2.out.below)⟩
        refine wp_region_quiet (C := fun W => Below w2.heap.size w2 W) (by kernel_rfl) (by kernel_rfl) (Below.refl _ _).drew ?_
        dsimp only
        go_big_quiet_want; refine ⟨.agg #[.int .i64 src, .int .i64 pgn, .int .i64 sq, .int .i64 nx, .int .i64 sz, .string dt, .int .i64 ag], fun W hW => (quietLoadCells 159 (.tmp 4) rfl R1 0 rfl (seL ⟨src, pgn, sq, nx, sz, dt, ag⟩) (fun j v hv => by rw [Nat.zero_add]; exact rowCells (HL2.out.get (.head _)) hW j v (by simpa [seL] using hv)) _ Tryz.underlying159 rfl (by kernel_rfl)), ?_⟩; simp only [Act.put, List.setIfInBounds_toArray, List.set_cons_zero, List.set_cons_succ]; go_big_quiet_on
        go_big_quiet_want; go_big_quiet_op; refine ⟨_, fun W hW => (by have := quietCall hW (sessionRight_any ⟨src, pgn, sq, nx, sz, dt, ag⟩ W HSe.out); rw [c0] at this; exact this), ?_⟩; go_big_quiet_on
        go_big_quiet_want; go_big_quiet_op; first | go_big_quiet_on | (refine ⟨_, fun _ _ => rfl, ?_⟩; go_big_quiet_on)
        go_big_quiet_want; go_big_quiet_op; first | go_big_quiet_on | (refine ⟨_, fun _ _ => rfl, ?_⟩; go_big_quiet_on)
        first | go_big_quiet_skip | (go_big_quiet_want; go_big_quiet_op; first | go_big_quiet_on | (refine ⟨_, fun _ _ => rfl, ?_⟩; go_big_quiet_on))
        first | go_big_quiet_skip | (go_big_quiet_want; go_big_quiet_op; first | go_big_quiet_on | (refine ⟨_, fun _ _ => rfl, ?_⟩; go_big_quiet_on))
        first | go_big_quiet_skip | (go_big_quiet_want; go_big_quiet_op; first | go_big_quiet_on | (refine ⟨_, fun _ _ => rfl, ?_⟩; go_big_quiet_on))
        first | go_big_quiet_skip | (go_big_quiet_want; go_big_quiet_op; first | go_big_quiet_on | (refine ⟨_, fun _ _ => rfl, ?_⟩; go_big_quiet_on))
        first | go_big_quiet_skip | (go_big_quiet_want; go_big_quiet_op; first | go_big_quiet_on | (refine ⟨_, fun _ _ => rfl, ?_⟩; go_big_quiet_on))
        first | go_big_quiet_skip | (go_big_quiet_want; go_big_quiet_op; first | go_big_quiet_on | (refine ⟨_, fun _ _ => rfl, ?_⟩; go_big_quiet_on))
        first | go_big_quiet_skip | (go_big_quiet_want; go_big_quiet_op; first | go_big_quiet_on | (refine ⟨_, fun _ _ => rfl, ?_⟩; go_big_quiet_on))
        first | go_big_quiet_skip | (go_big_quiet_want; refine ⟨.agg (seL y).toArray, fun W hW => (quietLoadCells 159 (.tmp 25) rfl b (o + m * 7) rfl (seL y) (grownCells lY HY.out hW) _ Tryz.underlying159 rfl (by kernel_rfl)), ?_⟩; simp only [Act.put, List.setIfInBounds_toArray, List.set_cons_zero, List.set_cons_succ]; go_big_quiet_on)
        first | go_big_quiet_skip | (go_big_quiet_want; refine ⟨.agg #[.int .i64 src, .int .i64 pgn, .int .i64 sq, .int .i64 nx, .int .i64 sz, .string dt, .int .i64 ag], fun W hW => (quietLoadCells 159 (.tmp 4) rfl R1 0 rfl (seL ⟨src, pgn, sq, nx, sz, dt, ag⟩) (fun j v hv => by rw [Nat.zero_add]; exact rowCells (HL2.out.get (.head _)) hW j v (by simpa [seL] using hv)) _ Tryz.underlying159 rfl (by kernel_rfl)), ?_⟩; simp only [Act.put, List.setIfInBounds_toArray, List.set_cons_zero, List.set_cons_succ]; go_big_quiet_on)
        first | go_big_quiet_skip | (go_big_quiet_want; go_big_quiet_op; refine ⟨_, fun W hW => quietCall hW (bySrc_any y ⟨src, pgn, sq, nx, sz, dt, ag⟩ W), ?_⟩; go_big_quiet_on)
        first | go_big_quiet_skip | (go_big_quiet_want; go_big_quiet_op; first | go_big_quiet_on | (refine ⟨_, fun _ _ => rfl, ?_⟩; go_big_quiet_on))
        first | go_big_quiet_skip | (go_big_quiet_want; go_big_quiet_op; first | go_big_quiet_on | (refine ⟨_, fun _ _ => rfl, ?_⟩; go_big_quiet_on))
        go_big_quiet_want; go_big_quiet_op; first | go_big_quiet_on | (refine ⟨_, fun _ _ => rfl, ?_⟩; go_big_quiet_on)
        refine wpQuiet_nil ?_
        intro X hX
        go_wp2_with fail
        go_roundw
        case rel => exact ⟨0 + 1, by go_num, by omega, HT.out, hb.trans ((HL2.out.below.trans (hX.mono HL2.out.below.size)).mono hb.size)⟩
        case measure => simp [intOf]; omega
      have e0 : decide ((0 : Int) < ((m + 1 : Nat) : Int)) = true := decide_eq_true (by omega)
      have e1 : IntKind.i64.wrap (((m + 1 : Nat) : Int) - 1) = (m : Int) := by rw [IntWalk.i64_in _ (by omega)]; omega
      have hm1 : (0 : Int) ≤ (m : Int) := by omega
      have hm2 : (m : Int) < (N : Int) := by omega
      have HY := Lib.hid (grownCells lB (HCp.out m rfl) HL2.out.below)
      rw [show m + 1 - 1 = m by omega] at HE
      generalize seAt l m = y at *
      have HB := fun W => Lib.hid (bySrc_any y ⟨src, pgn, sq, nx, sz, dt, ag⟩ W)
      have HD := Lib.hid (cmpS_neg y ⟨src, pgn, sq, nx, sz, dt, ag⟩)
      generalize cmpS y ⟨src, pgn, sq, nx, sz, dt, ag⟩ = D at *
      dsimp only at HD HE
      rcases c7 : lessB y src pgn
      · have HV := Lib.hid (HNo.out (by rw [HE.out, c0, c7]; simp))
        have e2 : decide (0 ≤ D) = true := by rw [HD.out, c7]; rfl
        clear HNo HNx HE HU HK HI HD
        refine wp_region_quiet (C := fun W => Below w2.heap.size w2 W) (by kernel_rfl) (by kernel_rfl) (Below.refl _ _).drew ?_
        dsimp only
        go_big_quiet_want; refine ⟨.agg #[.int .i64 src, .int .i64 pgn, .int .i64 sq, .int .i64 nx, .int .i64 sz, .string dt, .int .i64 ag], fun W hW => (quietLoadCells 159 (.tmp 4) rfl R1 0 rfl (seL ⟨src, pgn, sq, nx, sz, dt, ag⟩) (fun j v hv => by rw [Nat.zero_add]; exact rowCells (HL2.out.get (.head _)) hW j v (by simpa [seL] using hv)) _ Tryz.underlying159 rfl (by kernel_rfl)), ?_⟩; simp only [Act.put, List.setIfInBounds_toArray, List.set_cons_zero, List.set_cons_succ]; go_big_quiet_on
        go_big_quiet_want; go_big_quiet_op; refine ⟨_, fun W hW => (by have := quietCall hW (sessionRight_any ⟨src, pgn, sq, nx, sz, dt, ag⟩ W HSe.out); rw [c0] at this; exact this), ?_⟩; go_big_quiet_on
        go_big_quiet_want; go_big_quiet_op; first | go_big_quiet_on | (refine ⟨_, fun _ _ => rfl, ?_⟩; go_big_quiet_on)
        go_big_quiet_want; go_big_quiet_op; first | go_big_quiet_on | (refine ⟨_, fun _ _ => rfl, ?_⟩; go_big_quiet_on)
        first | go_big_quiet_skip | (go_big_quiet_want; go_big_quiet_op; first | go_big_quiet_on | (refine ⟨_, fun _ _ => rfl, ?_⟩; go_big_quiet_on))
        first | go_big_quiet_skip | (go_big_quiet_want; go_big_quiet_op; first | go_big_quiet_on | (refine ⟨_, fun _ _ => rfl, ?_⟩; go_big_quiet_on))
        first | go_big_quiet_skip | (go_big_quiet_want; go_big_quiet_op; first | go_big_quiet_on | (refine ⟨_, fun _ _ => rfl, ?_⟩; go_big_quiet_on))
        first | go_big_quiet_skip | (go_big_quiet_want; go_big_quiet_op; first | go_big_quiet_on | (refine ⟨_, fun _ _ => rfl, ?_⟩; go_big_quiet_on))
        first | go_big_quiet_skip | (go_big_quiet_want; go_big_quiet_op; first | go_big_quiet_on | (refine ⟨_, fun _ _ => rfl, ?_⟩; go_big_quiet_on))
        first | go_big_quiet_skip | (go_big_quiet_want; go_big_quiet_op; first | go_big_quiet_on | (refine ⟨_, fun _ _ => rfl, ?_⟩; go_big_quiet_on))
        first | go_big_quiet_skip | (go_big_quiet_want; go_big_quiet_op; first | go_big_quiet_on | (refine ⟨_, fun _ _ => rfl, ?_⟩; go_big_quiet_on))
        first | go_big_quiet_skip | (go_big_quiet_want; refine ⟨.agg (seL y).toArray, fun W hW => (quietLoadCells 159 (.tmp 25) rfl b (o + m * 7) rfl (seL y) (grownCells lY HY.out hW) _ Tryz.underlying159 rfl (by kernel_rfl)), ?_⟩; simp only [Act.put, List.setIfInBounds_toArray, List.set_cons_zero, List.set_cons_succ]; go_big_quiet_on)
        first | go_big_quiet_skip | (go_big_quiet_want; refine ⟨.agg #[.int .i64 src, .int .i64 pgn, .int .i64 sq, .int .i64 nx, .int .i64 sz, .string dt, .int .i64 ag], fun W hW => (quietLoadCells 159 (.tmp 4) rfl R1 0 rfl (seL ⟨src, pgn, sq, nx, sz, dt, ag⟩) (fun j v hv => by rw [Nat.zero_add]; exact rowCells (HL2.out.get (.head _)) hW j v (by simpa [seL] using hv)) _ Tryz.underlying159 rfl (by kernel_rfl)), ?_⟩; simp only [Act.put, List.setIfInBounds_toArray, List.set_cons_zero, List.set_cons_succ]; go_big_quiet_on)
        first | go_big_quiet_skip | (go_big_quiet_want; go_big_quiet_op; refine ⟨_, fun W hW => quietCall hW (HB W).out, ?_⟩; go_big_quiet_on)
        first | go_big_quiet_skip | (go_big_quiet_want; go_big_quiet_op; first | go_big_quiet_on | (refine ⟨_, fun _ _ => rfl, ?_⟩; go_big_quiet_on))
        first | go_big_quiet_skip | (go_big_quiet_want; go_big_quiet_op; first | go_big_quiet_on | (refine ⟨_, fun _ _ => rfl, ?_⟩; go_big_quiet_on))
        go_big_quiet_want; go_big_quiet_op; first | go_big_quiet_on | (refine ⟨_, fun _ _ => rfl, ?_⟩; go_big_quiet_on)
        refine wpQuiet_nil ?_
        intro X hX
        go_wp2_with fail
        go_ret
        exact ⟨by rw [HV.out]; rfl, hb.trans ((HL2.out.below.trans (hX.mono HL2.out.below.size)).mono hb.size)⟩
      · have HT := Lib.hid (HNx.out (by rw [HE.out, c0, c7]; simp))
        have e2 : decide (0 ≤ D) = false := by rw [HD.out, c7]; rfl
        clear HNo HNx HE HU HK HI HD
        refine wp_region_quiet (C := fun W => Below w2.heap.size w2 W) (by kernel_rfl) (by kernel_rfl) (Below.refl _ _).drew ?_
        dsimp only
        go_big_quiet_want; refine ⟨.agg #[.int .i64 src, .int .i64 pgn, .int .i64 sq, .int .i64 nx, .int .i64 sz, .string dt, .int .i64 ag], fun W hW => (quietLoadCells 159 (.tmp 4) rfl R1 0 rfl (seL ⟨src, pgn, sq, nx, sz, dt, ag⟩) (fun j v hv => by rw [Nat.zero_add]; exact rowCells (HL2.out.get (.head _)) hW j v (by simpa [seL] using hv)) _ Tryz.underlying159 rfl (by kernel_rfl)), ?_⟩; simp only [Act.put, List.setIfInBounds_toArray, List.set_cons_zero, List.set_cons_succ]; go_big_quiet_on
        go_big_quiet_want; go_big_quiet_op; refine ⟨_, fun W hW => (by have := quietCall hW (sessionRight_any ⟨src, pgn, sq, nx, sz, dt, ag⟩ W HSe.out); rw [c0] at this; exact this), ?_⟩; go_big_quiet_on
        go_big_quiet_want; go_big_quiet_op; first | go_big_quiet_on | (refine ⟨_, fun _ _ => rfl, ?_⟩; go_big_quiet_on)
        go_big_quiet_want; go_big_quiet_op; first | go_big_quiet_on | (refine ⟨_, fun _ _ => rfl, ?_⟩; go_big_quiet_on)
        first | go_big_quiet_skip | (go_big_quiet_want; go_big_quiet_op; first | go_big_quiet_on | (refine ⟨_, fun _ _ => rfl, ?_⟩; go_big_quiet_on))
        first | go_big_quiet_skip | (go_big_quiet_want; go_big_quiet_op; first | go_big_quiet_on | (refine ⟨_, fun _ _ => rfl, ?_⟩; go_big_quiet_on))
        first | go_big_quiet_skip | (go_big_quiet_want; go_big_quiet_op; first | go_big_quiet_on | (refine ⟨_, fun _ _ => rfl, ?_⟩; go_big_quiet_on))
        first | go_big_quiet_skip | (go_big_quiet_want; go_big_quiet_op; first | go_big_quiet_on | (refine ⟨_, fun _ _ => rfl, ?_⟩; go_big_quiet_on))
        first | go_big_quiet_skip | (go_big_quiet_want; go_big_quiet_op; first | go_big_quiet_on | (refine ⟨_, fun _ _ => rfl, ?_⟩; go_big_quiet_on))
        first | go_big_quiet_skip | (go_big_quiet_want; go_big_quiet_op; first | go_big_quiet_on | (refine ⟨_, fun _ _ => rfl, ?_⟩; go_big_quiet_on))
        first | go_big_quiet_skip | (go_big_quiet_want; go_big_quiet_op; first | go_big_quiet_on | (refine ⟨_, fun _ _ => rfl, ?_⟩; go_big_quiet_on))
        first | go_big_quiet_skip | (go_big_quiet_want; refine ⟨.agg (seL y).toArray, fun W hW => (quietLoadCells 159 (.tmp 25) rfl b (o + m * 7) rfl (seL y) (grownCells lY HY.out hW) _ Tryz.underlying159 rfl (by kernel_rfl)), ?_⟩; simp only [Act.put, List.setIfInBounds_toArray, List.set_cons_zero, List.set_cons_succ]; go_big_quiet_on)
        first | go_big_quiet_skip | (go_big_quiet_want; refine ⟨.agg #[.int .i64 src, .int .i64 pgn, .int .i64 sq, .int .i64 nx, .int .i64 sz, .string dt, .int .i64 ag], fun W hW => (quietLoadCells 159 (.tmp 4) rfl R1 0 rfl (seL ⟨src, pgn, sq, nx, sz, dt, ag⟩) (fun j v hv => by rw [Nat.zero_add]; exact rowCells (HL2.out.get (.head _)) hW j v (by simpa [seL] using hv)) _ Tryz.underlying159 rfl (by kernel_rfl)), ?_⟩; simp only [Act.put, List.setIfInBounds_toArray, List.set_cons_zero, List.set_cons_succ]; go_big_quiet_on)
        first | go_big_quiet_skip | (go_big_quiet_want; go_big_quiet_op; refine ⟨_, fun W hW => quietCall hW (HB W).out, ?_⟩; go_big_quiet_on)
        first | go_big_quiet_skip | (go_big_quiet_want; go_big_quiet_op; first | go_big_quiet_on | (refine ⟨_, fun _ _ => rfl, ?_⟩; go_big_quiet_on))
        first | go_big_quiet_skip | (go_big_quiet_want; go_big_quiet_op; first | go_big_quiet_on | (refine ⟨_, fun _ _ => rfl, ?_⟩; go_big_quiet_on))
        go_big_quiet_want; go_big_quiet_op; first | go_big_quiet_on | (refine ⟨_, fun _ _ => rfl, ?_⟩; go_big_quiet_on)
        refine wpQuiet_nil ?_
        intro X hX
        go_wp2_with fail
        go_roundw
        case rel => exact ⟨m + 1 + 1, by go_num, by omega, HT.out, hb.trans ((HL2.out.below.trans (hX.mono HL2.out.below.size)).mono hb.size)⟩
        case measure => simp [intOf]; omega
    · have hge : N ≤ k := by omega
      have HV := Lib.hid (tabB_yes (l := l) (by have := HN.out; omega) (by rw [show l.length = k by have := HN.out; omega]; exact HU.out))
      clear hkn
      go_wp2_with fail
      go_ret
      exact ⟨by rw [HV.out]; rfl, hb⟩
end Go.Proofs.YtioldepgoodipaaGreat
