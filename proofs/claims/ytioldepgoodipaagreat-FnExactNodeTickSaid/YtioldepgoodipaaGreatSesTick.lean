/- A tick of a table of Sessions: the program's and the model's. The answer is in memory of its own. -/
import Derived.Test.YtioldepgoodipaaGreatSesTo
import Derived.Test.YtioldepgoodipaaGreatRsOwn
import Derived.Test.YtioldepgoodipaaGreatJoined
namespace Go.Proofs.YtioldepgoodipaaGreat
open Go.RowKit
set_option linter.unusedVariables false

/-- A Session an Age older. -/
def olderS (x : Se) : Se := ⟨x.src, x.pgn, x.sq, x.nx, x.sz, x.dt, x.ag + 1⟩
/-- A table a tick later. -/
def tickL (l : List Se) : List Se := (l.filter fun x => decide (x.ag < 750)).map olderS
def tickT (l : List Se) : List Se := if tabB l = true then tickL l else []
theorem tickL_take {l : List Se} {k : Nat} (h : k < l.length) : tickL (l.take (k + 1)) = tickL (l.take k) ++ (if (seAt l k).ag < 750 then [olderS (seAt l k)] else []) := by
  rw [List.take_add_one, seAt_some h]
  unfold tickL
  simp only [Option.toList_some, List.filter_append, List.map_append]
  split <;> simp_all
theorem tickL_len (l : List Se) : (tickL l).length ≤ l.length := by
  unfold tickL
  rw [List.length_map]
  exact List.length_filter_le _ _
theorem tickT_len (l : List Se) : (tickT l).length ≤ 4 := by
  unfold tickT
  split
  · rename_i h
    exact Nat.le_trans (tickL_len l) (tabB_of h).1
  · simp
theorem okAt_of {l : List Se} {k : Nat} (h : okAt l k = true) : (0 ≤ (seAt l k).ag ∧ (seAt l k).ag ≤ 750) ∧ (seAt l k).dt.size ≤ 223 := by
  unfold okAt seB at h
  simp only [Bool.and_eq_true] at h
  have h1 := inB_of h.1.2.2.2.2.2.1
  have h2 := inB_of h.1.2.2.2.2.1
  have h3 := of_decide_eq_true h.1.2.2.2.2.2.2.2
  exact ⟨h1, by omega⟩

theorem joinedE_any (b : ByteArray) (w : World) (hb : b.size ≤ 1000000) :
    Calls Tryz.prog 170 #[.string ByteArray.empty, .string b] w fun e w' => e = .returned (.string b) ∧ Below w.heap.size w w' :=
  (joined_any ByteArray.empty b w (by decide) hb).mono fun e w' ⟨h1, h2⟩ => ⟨by rw [h1]; rfl, h2⟩
set_option maxRecDepth 100000 in
set_option maxHeartbeats 2000000 in
theorem freshSession_any (x : Se) (w : World) (hb : x.dt.size ≤ 1000000) :
    Calls Tryz.prog 148 #[.agg (seL x).toArray] w fun e w' => e = .returned (.agg (seL x).toArray) ∧ Below w.heap.size w w' := by
  obtain ⟨src, pgn, sq, nx, sz, dt, ag⟩ := x
  unfold seL
  dsimp only at *
  go_enter Tryz.func148, Tryz.ntmps148
  go_wp2_with (first
    | (refine wpList_box_h rfl 159 (.tmp 0) rfl #[.int .i64 src, .int .i64 pgn, .int .i64 sq, .int .i64 nx, .int .i64 sz, .string dt, .int .i64 ag] rfl ?_; intro w1 R1 e1 g1 b1; have HL1 := Lib.hid (show Lg w w1 [(R1, #[.int .i64 src, .int .i64 pgn, .int .i64 sq, .int .i64 nx, .int .i64 sz, .string dt, .int .i64 ag], 159)] [] from (Lg.first w).box e1 g1 b1); clear g1 b1 e1)
    | (refine wpList_alloc_h rfl 159 rfl (.agg #[.int .i64 0, .int .i64 0, .int .i64 0, .int .i64 0, .int .i64 0, .string ByteArray.empty, .int .i64 0]) (by kernel_rfl) #[.int .i64 0, .int .i64 0, .int .i64 0, .int .i64 0, .int .i64 0, .string ByteArray.empty, .int .i64 0] rfl ?_; intro w2 R2 e2 g2 b2; have qR2_R1 : R1 < R2 := Nat.lt_of_lt_of_eq (HL1.out.lt (.head _)) e2; have HL2 := Lib.hid (show Lg w w2 [(R2, #[.int .i64 0, .int .i64 0, .int .i64 0, .int .i64 0, .int .i64 0, .string ByteArray.empty, .int .i64 0], 159), (R1, #[.int .i64 src, .int .i64 pgn, .int .i64 sq, .int .i64 nx, .int .i64 sz, .string dt, .int .i64 ag], 159)] [] from HL1.out.box e2 g2 b2); clear g2 b2 e2)
    | (refine wpList_load_one rfl 9 (.tmp 3) rfl (R1) 5 rfl 159 #[.int .i64 src, .int .i64 pgn, .int .i64 sq, .int .i64 nx, .int .i64 sz, .string dt, .int .i64 ag] (0, 0) (HL2.out.get (.tail _ (.head _))) (.string dt) rfl _ Tryz.underlying9 rfl (by kernel_rfl) ?_))
  refine (joinedE_any dt _ hb).mono ?_
  rintro e w3 ⟨rfl, h⟩
  have HL3 := Lib.hid (show Lg w w3 [(R2, #[.int .i64 0, .int .i64 0, .int .i64 0, .int .i64 0, .int .i64 0, .string ByteArray.empty, .int .i64 0], 159), (R1, #[.int .i64 src, .int .i64 pgn, .int .i64 sq, .int .i64 nx, .int .i64 sz, .string dt, .int .i64 ag], 159)] [] from HL2.out.kept h)
  clear h
  go_wp2_with (first
    | (refine wpList_put_at rfl 9 (.tmp 6) (.tmp 5) rfl rfl (R1) 5 rfl (.string dt) rfl #[.string dt] rfl 159 #[.int .i64 src, .int .i64 pgn, .int .i64 sq, .int .i64 nx, .int .i64 sz, .string dt, .int .i64 ag] #[.int .i64 src, .int .i64 pgn, .int .i64 sq, .int .i64 nx, .int .i64 sz, .string dt, .int .i64 ag] (HL3.out.get (.tail _ (.head _))) (by kernel_rfl) (by kernel_rfl) (by kernel_rfl) (by kernel_rfl) ?_; intro w4 g4 o4; have HL4 := Lib.hid (show Lg w w4 [(R2, #[.int .i64 0, .int .i64 0, .int .i64 0, .int .i64 0, .int .i64 0, .string ByteArray.empty, .int .i64 0], 159), (R1, #[.int .i64 src, .int .i64 pgn, .int .i64 sq, .int .i64 nx, .int .i64 sz, .string dt, .int .i64 ag], 159)] [] from HL3.out.put 1 rfl g4 o4 (List.forall_mem_cons.2 ⟨Nat.ne_of_gt qR2_R1, (fun _ h => nomatch h)⟩) (fun _ h => nomatch h) rfl); clear g4 o4)
    | (refine wpList_load_at rfl 159 (.tmp 1) rfl (R1) 0 rfl 159 #[.int .i64 src, .int .i64 pgn, .int .i64 sq, .int .i64 nx, .int .i64 sz, .string dt, .int .i64 ag] (0, 0) (HL4.out.get (.tail _ (.head _))) [.int .i64 src, .int .i64 pgn, .int .i64 sq, .int .i64 nx, .int .i64 sz, .string dt, .int .i64 ag] rfl _ Tryz.underlying159 rfl (by kernel_rfl) ?_)
    | (refine wpList_put_at rfl 159 (.tmp 2) (.tmp 7) rfl rfl (R2) 0 rfl (.agg #[.int .i64 src, .int .i64 pgn, .int .i64 sq, .int .i64 nx, .int .i64 sz, .string dt, .int .i64 ag]) rfl #[.int .i64 src, .int .i64 pgn, .int .i64 sq, .int .i64 nx, .int .i64 sz, .string dt, .int .i64 ag] rfl 159 #[.int .i64 0, .int .i64 0, .int .i64 0, .int .i64 0, .int .i64 0, .string ByteArray.empty, .int .i64 0] #[.int .i64 src, .int .i64 pgn, .int .i64 sq, .int .i64 nx, .int .i64 sz, .string dt, .int .i64 ag] (HL4.out.get (.head _)) (by kernel_rfl) (by kernel_rfl) (by kernel_rfl) (by kernel_rfl) ?_; intro w5 g5 o5; have HL5 := Lib.hid (show Lg w w5 [(R2, #[.int .i64 src, .int .i64 pgn, .int .i64 sq, .int .i64 nx, .int .i64 sz, .string dt, .int .i64 ag], 159), (R1, #[.int .i64 src, .int .i64 pgn, .int .i64 sq, .int .i64 nx, .int .i64 sz, .string dt, .int .i64 ag], 159)] [] from HL4.out.put 0 rfl g5 o5 (List.forall_mem_cons.2 ⟨Nat.ne_of_lt qR2_R1, (fun _ h => nomatch h)⟩) (fun _ h => nomatch h) rfl); clear g5 o5))
  exact bodyPost_ret (results_cell_row (p := 2) (ty := 159) (by kernel_rfl) _ _ (R2) 159 _ (0, 0) _ rfl (HL5.out.get (.head _)) Tryz.underlying159 rfl (by kernel_rfl)) rfl ⟨rfl, HL5.out.below⟩
/-- A table, in memory of the call's own. -/
def TabOut (w : World) (l : List Se) (e : Ending) (w' : World) : Prop :=
  ∃ a cap, e = .returned (.slice a l.length cap) ∧ RsNew seL 7 159 w.heap.size w'.heap.size w' a l ∧ Below w.heap.size w w'
set_option maxRecDepth 100000 in
set_option maxHeartbeats 8000000 in
theorem l06Tick_any (a : Option Addr) (cap : Nat) (l : List Se) (w : World) (h : RsIn seL 7 w a l) (ht : tabB l = true) :
    Calls Tryz.prog 145 #[.slice a l.length cap] w (TabOut w (tickL l)) := by
  unfold TabOut
  obtain ⟨i0, hi, hz0, hz1, hz2⟩ := info_parts SesTo.info
  have HI0 := Lib.hid hi
  have HI := Lib.hid h
  have HT := Lib.hid (tabB_of ht).2
  have h4 := (tabB_of ht).1
  obtain ⟨N, hN⟩ : ∃ N, l.length = N := ⟨_, rfl⟩
  have HN := Lib.hid hN
  rw [hN] at h4 ⊢
  clear h ht hN hi
  go_enter Tryz.func145, Tryz.ntmps145
  go_wp2_with (refine wpList_lit0 seL 7 rfl 44 rfl 159 i0 Tryz.underlying44 HI0.out ?_; intro w1 G e1 hown b1; subst e1; have HO0 := Lib.hid (show OwnIn seL 7 159 w.heap.size w1.heap.size w1 _ (tickL (l.take 0)) from hown); have HB0 := Lib.hid b1; clear hown b1)
  go_loopw [3, 4, 5] (fun v i _ wr => ∃ (k : Nat) (V : Value), i = .int .i64 (k : Int) ∧ V = v ∧ k ≤ N ∧ OwnIn seL 7 159 w.heap.size wr.heap.size wr V (tickL (l.take k)) ∧ Below w.heap.size w wr) (fun v i _ _ => N - (intOf i).toNat)
  case atStart => exact ⟨0, _, rfl, rfl, by omega, HO0.out, HB0.out⟩
  case round =>
    obtain ⟨k, V, rfl, rfl, hk, hown, hb⟩ := hrel
    have HO := Lib.hid hown
    clear hown
    by_cases hkn : k < N
    · have hkl : k < l.length := by have := HN.out; omega
      have hi1 : (0 : Int) ≤ (k : Int) := by omega
      have hi2 : (k : Int) < (N : Int) := by omega
      obtain ⟨b, o, rfl, hlt, hc⟩ := HI.out.at (by omega)
      have lB : b < wr.heap.size := Nat.lt_of_lt_of_le hlt hb.size
      have HCs := Lib.hid (fun j v hv => (hb.cell (p := ⟨b, _, none⟩) hlt).trans (hc k _ (seAt_some hkl) j v hv))
      obtain ⟨⟨a0, a1⟩, d1⟩ := okAt_of (HT.out k hkl)
      have HD := Lib.hid d1
      have HX := Lib.hid (tickL_take hkl)
      have hlen : (tickL (l.take k)).length ≤ 4 := Nat.le_trans (tickL_len _) (by rw [List.length_take]; omega)
      have HLen := Lib.hid hlen
      clear hc d1 hlen
      generalize tickL (l.take k) = L at *
      generalize seAt l k = x at *
      obtain ⟨src, pgn, sq, nx, sz, dt, ag⟩ := x
      obtain ⟨LO, eLO⟩ : ∃ x, w.heap.size = x := ⟨_, rfl⟩
      obtain ⟨HI1, eHI⟩ : ∃ x, wr.heap.size = x := ⟨_, rfl⟩
      have HL1 := Lib.hid (show Lg w wr [] [(LO, HI1, fun W => OwnIn seL 7 159 LO HI1 W V L)] from (by
        subst eLO eHI
        exact (⟨hb, fun r hr => (by cases hr), fun n hn => (by cases hn)⟩ : Lg w wr [] []).addNew HO.out.solid (Nat.le_refl _) hb.size (Nat.le_refl _)))
      unfold seL at HCs
      dsimp only at *
      have HLO := Lib.hid eLO
      clear eLO eHI HO
      obtain ⟨A, hA⟩ : ∃ A, ag + 1 = A := ⟨_, rfl⟩
      have hw : IntKind.i64.wrap (ag + 1) = A := (IntWalk.i64_in _ (by omega)).trans hA
      unfold olderS at HX
      dsimp only at HX
      rw [hA] at HX
      by_cases h750 : ag < 750
      · have HA := Lib.hid h750
        have d0 : decide (A ≤ 750) = true := decide_eq_true (by omega)
        clear h750 hA
        go_wp2_with (first
          | (refine wpList_load_cells rfl 159 (.tmp 15) rfl b (o + k * 7) rfl [.int .i64 src, .int .i64 pgn, .int .i64 sq, .int .i64 nx, .int .i64 sz, .string dt, .int .i64 ag] HCs.out _ Tryz.underlying159 rfl (by kernel_rfl) ?_)
          | (refine wpList_alloc_h rfl 159 rfl (.agg #[.int .i64 0, .int .i64 0, .int .i64 0, .int .i64 0, .int .i64 0, .string ByteArray.empty, .int .i64 0]) (by kernel_rfl) #[.int .i64 0, .int .i64 0, .int .i64 0, .int .i64 0, .int .i64 0, .string ByteArray.empty, .int .i64 0] rfl ?_; intro w2 R2 e2 g2 b2; have qR2_HI1 : HI1 ≤ R2 := Nat.le_trans (HL1.out.hi (.head _)).2 (Nat.le_of_eq e2); have HL2 := Lib.hid (show Lg w w2 [(R2, #[.int .i64 0, .int .i64 0, .int .i64 0, .int .i64 0, .int .i64 0, .string ByteArray.empty, .int .i64 0], 159)] [(LO, HI1, fun W => OwnIn seL 7 159 LO HI1 W V L)] from HL1.out.box e2 g2 b2); clear g2 b2 e2)
          | (refine wpList_put_at rfl 159 (.tmp 5) (.tmp 16) rfl rfl (R2) 0 rfl (.agg #[.int .i64 src, .int .i64 pgn, .int .i64 sq, .int .i64 nx, .int .i64 sz, .string dt, .int .i64 ag]) rfl #[.int .i64 src, .int .i64 pgn, .int .i64 sq, .int .i64 nx, .int .i64 sz, .string dt, .int .i64 ag] rfl 159 #[.int .i64 0, .int .i64 0, .int .i64 0, .int .i64 0, .int .i64 0, .string ByteArray.empty, .int .i64 0] #[.int .i64 src, .int .i64 pgn, .int .i64 sq, .int .i64 nx, .int .i64 sz, .string dt, .int .i64 ag] (HL2.out.get (.head _)) (by kernel_rfl) (by kernel_rfl) (by kernel_rfl) (by kernel_rfl) ?_; intro w3 g3 o3; have HL3 := Lib.hid (show Lg w w3 [(R2, #[.int .i64 src, .int .i64 pgn, .int .i64 sq, .int .i64 nx, .int .i64 sz, .string dt, .int .i64 ag], 159)] [(LO, HI1, fun W => OwnIn seL 7 159 LO HI1 W V L)] from HL2.out.put 0 rfl g3 o3 (fun _ h => nomatch h) (List.forall_mem_cons.2 ⟨.inl qR2_HI1, (fun _ h => nomatch h)⟩) rfl); clear g3 o3)
          | (refine wpList_load_one rfl 2 (.tmp 17) rfl (R2) 6 rfl 159 #[.int .i64 src, .int .i64 pgn, .int .i64 sq, .int .i64 nx, .int .i64 sz, .string dt, .int .i64 ag] (0, 0) (HL3.out.get (.head _)) (.int .i64 ag) rfl _ Tryz.underlying2 rfl (by kernel_rfl) ?_)
          | (refine wpList_put_at rfl 2 (.tmp 20) (.tmp 19) rfl rfl (R2) 6 rfl (.int .i64 A) rfl #[.int .i64 A] rfl 159 #[.int .i64 src, .int .i64 pgn, .int .i64 sq, .int .i64 nx, .int .i64 sz, .string dt, .int .i64 ag] #[.int .i64 src, .int .i64 pgn, .int .i64 sq, .int .i64 nx, .int .i64 sz, .string dt, .int .i64 A] (HL3.out.get (.head _)) (by kernel_rfl) (by kernel_rfl) (by kernel_rfl) (by kernel_rfl) ?_; intro w4 g4 o4; have HL4 := Lib.hid (show Lg w w4 [(R2, #[.int .i64 src, .int .i64 pgn, .int .i64 sq, .int .i64 nx, .int .i64 sz, .string dt, .int .i64 A], 159)] [(LO, HI1, fun W => OwnIn seL 7 159 LO HI1 W V L)] from HL3.out.put 0 rfl g4 o4 (fun _ h => nomatch h) (List.forall_mem_cons.2 ⟨.inl qR2_HI1, (fun _ h => nomatch h)⟩) rfl); clear g4 o4)
          | (refine wpList_load_one rfl 2 (.tmp 21) rfl (R2) 6 rfl 159 #[.int .i64 src, .int .i64 pgn, .int .i64 sq, .int .i64 nx, .int .i64 sz, .string dt, .int .i64 A] (0, 0) (HL4.out.get (.head _)) (.int .i64 A) rfl _ Tryz.underlying2 rfl (by kernel_rfl) ?_)
          | (refine wpList_load_at rfl 159 (.tmp 5) rfl (R2) 0 rfl 159 #[.int .i64 src, .int .i64 pgn, .int .i64 sq, .int .i64 nx, .int .i64 sz, .string dt, .int .i64 A] (0, 0) (HL4.out.get (.head _)) [.int .i64 src, .int .i64 pgn, .int .i64 sq, .int .i64 nx, .int .i64 sz, .string dt, .int .i64 A] rfl _ Tryz.underlying159 rfl (by kernel_rfl) ?_)
          | (refine wpList_lit1 seL_len rfl 44 (.tmp 25) rfl 159 i0 Tryz.underlying44 HI0.out _ hz0 hz1 ⟨src, pgn, sq, nx, sz, dt, A⟩ (.agg #[.int .i64 src, .int .i64 pgn, .int .i64 sq, .int .i64 nx, .int .i64 sz, .string dt, .int .i64 A]) rfl rfl (by kernel_rfl) (by decide) (by decide) ?_; intro w20 R20 e20 hin20 b20; have HR20 := Lib.hid hin20; have HL20 := Lib.hid (HL4.out.kept b20); clear e20 hin20 b20)
          | (at_builtin; refine wpList_append_rs seL_len seL_one rfl (.tmp 24) (.tmp 26) 44 rfl 159 i0 _ 64 Tryz.underlying44 HI0.out hz0 hz1 hz2 (by kernel_rfl) (by decide) LO HI1 V L rfl (HL20.out.at (.head _)) _ 1 [⟨src, pgn, sq, nx, sz, dt, A⟩] rfl HR20.out (by have := HLen.out; unfold maxLen; show _ + 1 ≤ _; omega) (by have := HLen.out; show (_ + 1) * 64 ≤ _; omega) (Nat.le_trans (HL20.out.hi (.head _)).1 (HL20.out.hi (.head _)).2) ?_; intro v21 w21 hown21 ho21; have HO21 := Lib.hid hown21; have HU21 := Lib.hid ho21; clear hown21 ho21))
        go_roundw
        case rel =>
          refine ⟨k + 1, _, by go_num, rfl, by omega, ?_, HU21.out.below HL20.out.below (HL20.out.lo (.head _)) HL20.out.below.size⟩
          have h := HO21.out
          rw [HX.out, if_pos HA.out]
          have e := HLO.out
          subst e
          exact h
        case measure => simp [intOf]; omega
      · have HA := Lib.hid h750
        have d0 : decide (A ≤ 750) = false := decide_eq_false (by omega)
        clear h750 hA
        go_wp2_with (first
          | (refine wpList_load_cells rfl 159 (.tmp 15) rfl b (o + k * 7) rfl [.int .i64 src, .int .i64 pgn, .int .i64 sq, .int .i64 nx, .int .i64 sz, .string dt, .int .i64 ag] HCs.out _ Tryz.underlying159 rfl (by kernel_rfl) ?_)
          | (refine wpList_alloc_h rfl 159 rfl (.agg #[.int .i64 0, .int .i64 0, .int .i64 0, .int .i64 0, .int .i64 0, .string ByteArray.empty, .int .i64 0]) (by kernel_rfl) #[.int .i64 0, .int .i64 0, .int .i64 0, .int .i64 0, .int .i64 0, .string ByteArray.empty, .int .i64 0] rfl ?_; intro w2 R2 e2 g2 b2; have qR2_HI1 : HI1 ≤ R2 := Nat.le_trans (HL1.out.hi (.head _)).2 (Nat.le_of_eq e2); have HL2 := Lib.hid (show Lg w w2 [(R2, #[.int .i64 0, .int .i64 0, .int .i64 0, .int .i64 0, .int .i64 0, .string ByteArray.empty, .int .i64 0], 159)] [(LO, HI1, fun W => OwnIn seL 7 159 LO HI1 W V L)] from HL1.out.box e2 g2 b2); clear g2 b2 e2)
          | (refine wpList_put_at rfl 159 (.tmp 5) (.tmp 16) rfl rfl (R2) 0 rfl (.agg #[.int .i64 src, .int .i64 pgn, .int .i64 sq, .int .i64 nx, .int .i64 sz, .string dt, .int .i64 ag]) rfl #[.int .i64 src, .int .i64 pgn, .int .i64 sq, .int .i64 nx, .int .i64 sz, .string dt, .int .i64 ag] rfl 159 #[.int .i64 0, .int .i64 0, .int .i64 0, .int .i64 0, .int .i64 0, .string ByteArray.empty, .int .i64 0] #[.int .i64 src, .int .i64 pgn, .int .i64 sq, .int .i64 nx, .int .i64 sz, .string dt, .int .i64 ag] (HL2.out.get (.head _)) (by kernel_rfl) (by kernel_rfl) (by kernel_rfl) (by kernel_rfl) ?_; intro w3 g3 o3; have HL3 := Lib.hid (show Lg w w3 [(R2, #[.int .i64 src, .int .i64 pgn, .int .i64 sq, .int .i64 nx, .int .i64 sz, .string dt, .int .i64 ag], 159)] [(LO, HI1, fun W => OwnIn seL 7 159 LO HI1 W V L)] from HL2.out.put 0 rfl g3 o3 (fun _ h => nomatch h) (List.forall_mem_cons.2 ⟨.inl qR2_HI1, (fun _ h => nomatch h)⟩) rfl); clear g3 o3)
          | (refine wpList_load_one rfl 2 (.tmp 17) rfl (R2) 6 rfl 159 #[.int .i64 src, .int .i64 pgn, .int .i64 sq, .int .i64 nx, .int .i64 sz, .string dt, .int .i64 ag] (0, 0) (HL3.out.get (.head _)) (.int .i64 ag) rfl _ Tryz.underlying2 rfl (by kernel_rfl) ?_)
          | (refine wpList_put_at rfl 2 (.tmp 20) (.tmp 19) rfl rfl (R2) 6 rfl (.int .i64 A) rfl #[.int .i64 A] rfl 159 #[.int .i64 src, .int .i64 pgn, .int .i64 sq, .int .i64 nx, .int .i64 sz, .string dt, .int .i64 ag] #[.int .i64 src, .int .i64 pgn, .int .i64 sq, .int .i64 nx, .int .i64 sz, .string dt, .int .i64 A] (HL3.out.get (.head _)) (by kernel_rfl) (by kernel_rfl) (by kernel_rfl) (by kernel_rfl) ?_; intro w4 g4 o4; have HL4 := Lib.hid (show Lg w w4 [(R2, #[.int .i64 src, .int .i64 pgn, .int .i64 sq, .int .i64 nx, .int .i64 sz, .string dt, .int .i64 A], 159)] [(LO, HI1, fun W => OwnIn seL 7 159 LO HI1 W V L)] from HL3.out.put 0 rfl g4 o4 (fun _ h => nomatch h) (List.forall_mem_cons.2 ⟨.inl qR2_HI1, (fun _ h => nomatch h)⟩) rfl); clear g4 o4)
          | (refine wpList_load_one rfl 2 (.tmp 21) rfl (R2) 6 rfl 159 #[.int .i64 src, .int .i64 pgn, .int .i64 sq, .int .i64 nx, .int .i64 sz, .string dt, .int .i64 A] (0, 0) (HL4.out.get (.head _)) (.int .i64 A) rfl _ Tryz.underlying2 rfl (by kernel_rfl) ?_))
        go_roundw
        case rel =>
          refine ⟨k + 1, _, by go_num, rfl, by omega, ?_, HL4.out.below⟩
          have h := (HL4.out.at (.head _)).wide (HL4.out.hi (.head _)).2
          rw [HX.out, if_neg HA.out, List.append_nil]
          have e := HLO.out
          subst e
          exact h
        case measure => simp [intOf]; omega
    · have hge : N ≤ k := by omega
      have HV := Lib.hid (show l.take k = l from List.take_of_length_le (by have := HN.out; omega))
      clear hkn
      go_wp2_with fail
      go_ret
      obtain ⟨a', cap', rfl, _, hn⟩ := HO.out.new seL_len
      rw [HV.out] at hn ⊢
      exact ⟨a', cap', rfl, hn, hb⟩
set_option maxRecDepth 100000 in
set_option maxHeartbeats 8000000 in
theorem implTick_any (a : Option Addr) (cap : Nat) (l : List Se) (w : World) (h : RsIn seL 7 w a l) (hok : SesOk l) (hlen : l.length ≤ maxLen) :
    Calls Tryz.prog 72 #[.slice a l.length cap] w (TabOut w (tickT l)) := by
  unfold TabOut
  obtain ⟨i0, hi, hz0, hz1, hz2⟩ := info_parts SesTo.info
  have HI0 := Lib.hid hi
  have HI := Lib.hid h
  have HC := fun W hW => Lib.hid (implTable_any a cap l W hW hok hlen)
  unfold tickT
  clear hi h
  rcases ht : tabB l
  · rw [ht] at HC
    clear ht
    rw [if_neg (by simp)]
    go_enter Tryz.func72, Tryz.ntmps72
    go_wp2_with fail
    refine (HC _ HI.out).out.mono ?_
    rintro e w1 ⟨rfl, h1⟩
    go_wp2_with fail
    go_ret
    exact ⟨_, _, rfl, RsNew.nil _, h1⟩
  rw [ht] at HC
  rw [if_pos rfl]
  have HT := Lib.hid (tabB_of ht).2
  have h4 := (tabB_of ht).1
  obtain ⟨N, hN⟩ : ∃ N, l.length = N := ⟨_, rfl⟩
  have HN := Lib.hid hN
  rw [hN] at h4 HC ⊢
  clear ht hN hlen
  go_enter Tryz.func72, Tryz.ntmps72
  go_wp2_with fail
  refine (HC _ HI.out).out.mono ?_
  rintro e w1 ⟨rfl, h1⟩
  have HO0 := Lib.hid (show OwnIn seL 7 159 w.heap.size w1.heap.size w1 (.slice none 0 0) (tickL (l.take 0)) from OwnIn.none w1)
  have HB0 := Lib.hid h1
  clear h1
  go_wp2_with fail
  go_loopw [3, 5, 11] (fun v _ i wr => ∃ (k : Nat) (V : Value), i = .int .i64 (k : Int) ∧ V = v ∧ k ≤ N ∧ OwnIn seL 7 159 w.heap.size wr.heap.size wr V (tickL (l.take k)) ∧ Below w.heap.size w wr) (fun v _ i _ => N - (intOf i).toNat)
  case atStart => exact ⟨0, _, rfl, rfl, by omega, HO0.out, HB0.out⟩
  case round =>
    obtain ⟨k, V, rfl, rfl, hk, hown, hb⟩ := hrel
    have HO := Lib.hid hown
    clear hown
    by_cases hkn : k < N
    · have hkl : k < l.length := by have := HN.out; omega
      have hi1 : (0 : Int) ≤ (k : Int) := by omega
      have hi2 : (k : Int) < (N : Int) := by omega
      obtain ⟨b, o, rfl, hlt, hc⟩ := HI.out.at (by omega)
      have lB : b < wr.heap.size := Nat.lt_of_lt_of_le hlt hb.size
      have HCs := Lib.hid (fun j v hv => (hb.cell (p := ⟨b, _, none⟩) hlt).trans (hc k _ (seAt_some hkl) j v hv))
      obtain ⟨⟨a0, a1⟩, d1⟩ := okAt_of (HT.out k hkl)
      have HD := Lib.hid d1
      have HX := Lib.hid (tickL_take hkl)
      have hlen : (tickL (l.take k)).length ≤ 4 := Nat.le_trans (tickL_len _) (by rw [List.length_take]; omega)
      have HLen := Lib.hid hlen
      clear hc d1 hlen
      generalize tickL (l.take k) = L at *
      generalize seAt l k = x at *
      obtain ⟨src, pgn, sq, nx, sz, dt, ag⟩ := x
      obtain ⟨LO, eLO⟩ : ∃ x, w.heap.size = x := ⟨_, rfl⟩
      obtain ⟨HI1, eHI⟩ : ∃ x, wr.heap.size = x := ⟨_, rfl⟩
      have HL1 := Lib.hid (show Lg w wr [] [(LO, HI1, fun W => OwnIn seL 7 159 LO HI1 W V L)] from (by
        subst eLO eHI
        exact (⟨hb, fun r hr => (by cases hr), fun n hn => (by cases hn)⟩ : Lg w wr [] []).addNew HO.out.solid (Nat.le_refl _) hb.size (Nat.le_refl _)))
      unfold seL at HCs
      dsimp only at *
      have HLO := Lib.hid eLO
      clear eLO eHI HO
      obtain ⟨A, hA⟩ : ∃ A, ag + 1 = A := ⟨_, rfl⟩
      have hw : IntKind.i64.wrap (ag + 1) = A := (IntWalk.i64_in _ (by omega)).trans hA
      unfold olderS at HX
      dsimp only at HX
      rw [hA] at HX
      by_cases h750 : ag < 750
      · have HA := Lib.hid h750
        have d0 : decide (ag < 750) = true := decide_eq_true h750
        clear h750 hA
        go_wp2_with (first
          | (refine wpList_load_cells rfl 159 (.tmp 13) rfl b (o + k * 7) rfl [.int .i64 src, .int .i64 pgn, .int .i64 sq, .int .i64 nx, .int .i64 sz, .string dt, .int .i64 ag] HCs.out _ Tryz.underlying159 rfl (by kernel_rfl) ?_)
          | (refine wpList_alloc_h rfl 159 rfl (.agg #[.int .i64 0, .int .i64 0, .int .i64 0, .int .i64 0, .int .i64 0, .string ByteArray.empty, .int .i64 0]) (by kernel_rfl) #[.int .i64 0, .int .i64 0, .int .i64 0, .int .i64 0, .int .i64 0, .string ByteArray.empty, .int .i64 0] rfl ?_; intro w2 R2 e2 g2 b2; have qR2_HI1 : HI1 ≤ R2 := Nat.le_trans (HL1.out.hi (.head _)).2 (Nat.le_of_eq e2); have HL2 := Lib.hid (show Lg w w2 [(R2, #[.int .i64 0, .int .i64 0, .int .i64 0, .int .i64 0, .int .i64 0, .string ByteArray.empty, .int .i64 0], 159)] [(LO, HI1, fun W => OwnIn seL 7 159 LO HI1 W V L)] from HL1.out.box e2 g2 b2); clear g2 b2 e2)
          | (refine wpList_put_at rfl 159 (.tmp 5) (.tmp 14) rfl rfl (R2) 0 rfl (.agg #[.int .i64 src, .int .i64 pgn, .int .i64 sq, .int .i64 nx, .int .i64 sz, .string dt, .int .i64 ag]) rfl #[.int .i64 src, .int .i64 pgn, .int .i64 sq, .int .i64 nx, .int .i64 sz, .string dt, .int .i64 ag] rfl 159 #[.int .i64 0, .int .i64 0, .int .i64 0, .int .i64 0, .int .i64 0, .string ByteArray.empty, .int .i64 0] #[.int .i64 src, .int .i64 pgn, .int .i64 sq, .int .i64 nx, .int .i64 sz, .string dt, .int .i64 ag] (HL2.out.get (.head _)) (by kernel_rfl) (by kernel_rfl) (by kernel_rfl) (by kernel_rfl) ?_; intro w3 g3 o3; have HL3 := Lib.hid (show Lg w w3 [(R2, #[.int .i64 src, .int .i64 pgn, .int .i64 sq, .int .i64 nx, .int .i64 sz, .string dt, .int .i64 ag], 159)] [(LO, HI1, fun W => OwnIn seL 7 159 LO HI1 W V L)] from HL2.out.put 0 rfl g3 o3 (fun _ h => nomatch h) (List.forall_mem_cons.2 ⟨.inl qR2_HI1, (fun _ h => nomatch h)⟩) rfl); clear g3 o3)
          | (refine wpList_load_one rfl 2 (.tmp 15) rfl (R2) 6 rfl 159 #[.int .i64 src, .int .i64 pgn, .int .i64 sq, .int .i64 nx, .int .i64 sz, .string dt, .int .i64 ag] (0, 0) (HL3.out.get (.head _)) (.int .i64 ag) rfl _ Tryz.underlying2 rfl (by kernel_rfl) ?_)
          | (refine wpList_load_one rfl 2 (.tmp 18) rfl (R2) 6 rfl 159 #[.int .i64 src, .int .i64 pgn, .int .i64 sq, .int .i64 nx, .int .i64 sz, .string dt, .int .i64 ag] (0, 0) (HL3.out.get (.head _)) (.int .i64 ag) rfl _ Tryz.underlying2 rfl (by kernel_rfl) ?_)
          | (refine wpList_put_at rfl 2 (.tmp 21) (.tmp 20) rfl rfl (R2) 6 rfl (.int .i64 A) rfl #[.int .i64 A] rfl 159 #[.int .i64 src, .int .i64 pgn, .int .i64 sq, .int .i64 nx, .int .i64 sz, .string dt, .int .i64 ag] #[.int .i64 src, .int .i64 pgn, .int .i64 sq, .int .i64 nx, .int .i64 sz, .string dt, .int .i64 A] (HL3.out.get (.head _)) (by kernel_rfl) (by kernel_rfl) (by kernel_rfl) (by kernel_rfl) ?_; intro w4 g4 o4; have HL4 := Lib.hid (show Lg w w4 [(R2, #[.int .i64 src, .int .i64 pgn, .int .i64 sq, .int .i64 nx, .int .i64 sz, .string dt, .int .i64 A], 159)] [(LO, HI1, fun W => OwnIn seL 7 159 LO HI1 W V L)] from HL3.out.put 0 rfl g4 o4 (fun _ h => nomatch h) (List.forall_mem_cons.2 ⟨.inl qR2_HI1, (fun _ h => nomatch h)⟩) rfl); clear g4 o4)
          | (refine wpList_load_at rfl 159 (.tmp 5) rfl (R2) 0 rfl 159 #[.int .i64 src, .int .i64 pgn, .int .i64 sq, .int .i64 nx, .int .i64 sz, .string dt, .int .i64 A] (0, 0) (HL4.out.get (.head _)) [.int .i64 src, .int .i64 pgn, .int .i64 sq, .int .i64 nx, .int .i64 sz, .string dt, .int .i64 A] rfl _ Tryz.underlying159 rfl (by kernel_rfl) ?_))
        refine (freshSession_any ⟨src, pgn, sq, nx, sz, dt, A⟩ _ (by have := HD.out; show dt.size ≤ _; omega)).mono ?_
        rintro e w5 ⟨rfl, h⟩
        have HL5 := Lib.hid (show Lg w w5 [(R2, #[.int .i64 src, .int .i64 pgn, .int .i64 sq, .int .i64 nx, .int .i64 sz, .string dt, .int .i64 A], 159)] [(LO, HI1, fun W => OwnIn seL 7 159 LO HI1 W V L)] from HL4.out.kept h)
        clear h
        go_wp2_with (first
          | (refine wpList_lit1 seL_len rfl 44 (.tmp 24) rfl 159 i0 Tryz.underlying44 HI0.out _ hz0 hz1 ⟨src, pgn, sq, nx, sz, dt, A⟩ (.agg #[.int .i64 src, .int .i64 pgn, .int .i64 sq, .int .i64 nx, .int .i64 sz, .string dt, .int .i64 A]) rfl rfl (by kernel_rfl) (by decide) (by decide) ?_; intro w20 R20 e20 hin20 b20; have HR20 := Lib.hid hin20; have HL20 := Lib.hid (HL5.out.kept b20); clear e20 hin20 b20)
          | (at_builtin; refine wpList_append_rs seL_len seL_one rfl (.tmp 22) (.tmp 25) 44 rfl 159 i0 _ 64 Tryz.underlying44 HI0.out hz0 hz1 hz2 (by kernel_rfl) (by decide) LO HI1 V L rfl (HL20.out.at (.head _)) _ 1 [⟨src, pgn, sq, nx, sz, dt, A⟩] rfl HR20.out (by have := HLen.out; unfold maxLen; show _ + 1 ≤ _; omega) (by have := HLen.out; show (_ + 1) * 64 ≤ _; omega) (Nat.le_trans (HL20.out.hi (.head _)).1 (HL20.out.hi (.head _)).2) ?_; intro v21 w21 hown21 ho21; have HO21 := Lib.hid hown21; have HU21 := Lib.hid ho21; clear hown21 ho21))
        go_roundw
        case rel =>
          refine ⟨k + 1, _, by go_num, rfl, by omega, ?_, HU21.out.below HL20.out.below (HL20.out.lo (.head _)) HL20.out.below.size⟩
          have h := HO21.out
          rw [HX.out, if_pos HA.out]
          have e := HLO.out
          subst e
          exact h
        case measure => simp [intOf]; omega
      · have HA := Lib.hid h750
        have d0 : decide (ag < 750) = false := decide_eq_false h750
        clear h750 hA
        go_wp2_with (first
          | (refine wpList_load_cells rfl 159 (.tmp 13) rfl b (o + k * 7) rfl [.int .i64 src, .int .i64 pgn, .int .i64 sq, .int .i64 nx, .int .i64 sz, .string dt, .int .i64 ag] HCs.out _ Tryz.underlying159 rfl (by kernel_rfl) ?_)
          | (refine wpList_alloc_h rfl 159 rfl (.agg #[.int .i64 0, .int .i64 0, .int .i64 0, .int .i64 0, .int .i64 0, .string ByteArray.empty, .int .i64 0]) (by kernel_rfl) #[.int .i64 0, .int .i64 0, .int .i64 0, .int .i64 0, .int .i64 0, .string ByteArray.empty, .int .i64 0] rfl ?_; intro w2 R2 e2 g2 b2; have qR2_HI1 : HI1 ≤ R2 := Nat.le_trans (HL1.out.hi (.head _)).2 (Nat.le_of_eq e2); have HL2 := Lib.hid (show Lg w w2 [(R2, #[.int .i64 0, .int .i64 0, .int .i64 0, .int .i64 0, .int .i64 0, .string ByteArray.empty, .int .i64 0], 159)] [(LO, HI1, fun W => OwnIn seL 7 159 LO HI1 W V L)] from HL1.out.box e2 g2 b2); clear g2 b2 e2)
          | (refine wpList_put_at rfl 159 (.tmp 5) (.tmp 14) rfl rfl (R2) 0 rfl (.agg #[.int .i64 src, .int .i64 pgn, .int .i64 sq, .int .i64 nx, .int .i64 sz, .string dt, .int .i64 ag]) rfl #[.int .i64 src, .int .i64 pgn, .int .i64 sq, .int .i64 nx, .int .i64 sz, .string dt, .int .i64 ag] rfl 159 #[.int .i64 0, .int .i64 0, .int .i64 0, .int .i64 0, .int .i64 0, .string ByteArray.empty, .int .i64 0] #[.int .i64 src, .int .i64 pgn, .int .i64 sq, .int .i64 nx, .int .i64 sz, .string dt, .int .i64 ag] (HL2.out.get (.head _)) (by kernel_rfl) (by kernel_rfl) (by kernel_rfl) (by kernel_rfl) ?_; intro w3 g3 o3; have HL3 := Lib.hid (show Lg w w3 [(R2, #[.int .i64 src, .int .i64 pgn, .int .i64 sq, .int .i64 nx, .int .i64 sz, .string dt, .int .i64 ag], 159)] [(LO, HI1, fun W => OwnIn seL 7 159 LO HI1 W V L)] from HL2.out.put 0 rfl g3 o3 (fun _ h => nomatch h) (List.forall_mem_cons.2 ⟨.inl qR2_HI1, (fun _ h => nomatch h)⟩) rfl); clear g3 o3)
          | (refine wpList_load_one rfl 2 (.tmp 15) rfl (R2) 6 rfl 159 #[.int .i64 src, .int .i64 pgn, .int .i64 sq, .int .i64 nx, .int .i64 sz, .string dt, .int .i64 ag] (0, 0) (HL3.out.get (.head _)) (.int .i64 ag) rfl _ Tryz.underlying2 rfl (by kernel_rfl) ?_))
        go_roundw
        case rel =>
          refine ⟨k + 1, _, by go_num, rfl, by omega, ?_, HL3.out.below⟩
          have h := (HL3.out.at (.head _)).wide (HL3.out.hi (.head _)).2
          rw [HX.out, if_neg HA.out, List.append_nil]
          have e := HLO.out
          subst e
          exact h
        case measure => simp [intOf]; omega
    · have hge : N ≤ k := by omega
      have HV := Lib.hid (show l.take k = l from List.take_of_length_le (by have := HN.out; omega))
      clear hkn
      go_wp2_with fail
      go_ret
      obtain ⟨a', cap', rfl, _, hn⟩ := HO.out.new seL_len
      rw [HV.out] at hn ⊢
      exact ⟨a', cap', rfl, hn, hb⟩
end Go.Proofs.YtioldepgoodipaaGreat
