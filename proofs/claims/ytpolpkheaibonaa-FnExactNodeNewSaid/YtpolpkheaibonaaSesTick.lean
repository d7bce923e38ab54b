/- A tick of a table of Sessions: the program's and the model's. The answer is in memory of its own. -/
import Derived.Test.YtpolpkheaibonaaSesTo
import Derived.Test.YtpolpkheaibonaaRsOwn
import Derived.Test.YtpolpkheaibonaaJoined
namespace Go.Proofs.Ytpolpkheaibonaa
open Go.RowKit
set_option linter.unusedVariables false

/-- A Session an Age older. -/
def olderS (x : Se) : Se := ⟨x.src, x.pgn, x.sq, x.nx, x.sz, x.dt, x.ag + 1⟩
/-- A table a tick later. -/
def tickL (l : List Se) : List Se := (l.filter fun x => decide (x.ag < 750)).map olderS
def tickT (l : List Se) : List Se := if tabB l = true then tickL l else []
theorem tickL_take {l : List Se} {k : Nat} (h : k < l.length) : tickL (l.take (k + 1)) = tickL (l.take k) ++ (if (seAt l k).ag < 750 then [olderS (seAt l k)] else []) := by
  rw [List.take_add_one, seAt_some h]
  unfold tickL
  simp only [Option.toList_some, List.filter_append, List.map_append]
  split <;> simp_all
theorem tickL_len (l : List Se) : (tickL l).length ≤ l.length := by
  unfold tickL
  rw [List.length_map]
  exact List.length_filter_le _ _
theorem tickT_len (l : List Se) : (tickT l).length ≤ 4 := by
  unfold tickT
  split
  · rename_i h
    exact Nat.le_trans (tickL_len l) (tabB_of h).1
  · simp
theorem okAt_of {l : List Se} {k : Nat} (h : okAt l k = true) : (0 ≤ (seAt l k).ag ∧ (seAt l k).ag ≤ 750) ∧ (seAt l k).dt.size ≤ 223 := by
  unfold okAt seB at h
  simp only [Bool.and_eq_true] at h
  have h1 := inB_of h.1.2.2.2.2.2.1
  have h2 := inB_of h.1.2.2.2.2.1
  have h3 := of_decide_eq_true h.1.2.2.2.2.2.2.2
  exact ⟨h1, by omega⟩

theorem joinedE_any (b : ByteArray) (w : World) (hb : b.size ≤ 1000000) :
    Calls Try.prog 105 #[.string ByteArray.empty, .string b] w fun e w' => e = .returned (.string b) ∧ Below w.heap.size w w' :=
  (joined_any ByteArray.empty b w (by decide) hb).mono fun e w' ⟨h1, h2⟩ => ⟨by rw [h1]; rfl, h2⟩
set_option maxRecDepth 100000 in
set_option maxHeartbeats 2000000 in
theorem freshSession_any (x : Se) (w : World) (hb : x.dt.size ≤ 1000000) :
    Calls Try.prog 104 #[.agg (seL x).toArray] w fun e w' => e = .returned (.agg (seL x).toArray) ∧ Below w.heap.size w w' := by
  obtain ⟨src, pgn, sq, nx, sz, dt, ag⟩ := x
  unfold seL
  dsimp only at *
  go_enter Try.func104, Try.ntmps104
  go_wp2_with (first
    | (refine wpList_box_h rfl 98 (.tmp 0) rfl #[.int .i64 src, .int .i64 pgn, .int .i64 sq, .int .i64 nx, .int .i64 sz, .string dt, .int .i64 ag] rfl ?_; intro w1 R1 e1 g1 b1; have HL1 := Lib.hid (show Lg w w1 [(R1, #[.int .i64 src, .int .i64 pgn, .int .i64 sq, .int .i64 nx, .int .i64 sz, .string dt, .int .i64 ag], 98)] [] from (Lg.first w).box e1 g1 b1); clear g1 b1 e1)
    | (refine wpList_alloc_h rfl 98 rfl (.agg #[.int .i64 0, .int .i64 0, .int .i64 0, .int .i64 0, .int .i64 0, .string ByteArray.empty, .int .i64 0]) (by kernel_rfl) #[.int .i64 0, .int .i64 0, .int .i64 0, .int .i64 0, .int .i64 0, .string ByteArray.empty, .int .i64 0] rfl ?_; intro w2 R2 e2 g2 b2; have qR2_R1 : R1 < R2 := Nat.lt_of_lt_of_eq (HL1.out.lt (.head _)) e2; have HL2 := Lib.hid (show Lg w w2 [(R2, #[.int .i64 0, .int .i64 0, .int .i64 0, .int .i64 0, .int .i64 0, .string ByteArray.empty, .int .i64 0], 98), (R1, #[.int .i64 src, .int .i64 pgn, .int .i64 sq, .int .i64 nx, .int .i64 sz, .string dt, .int .i64 ag], 98)] [] from HL1.out.box e2 g2 b2); clear g2 b2 e2)
    | (refine wpList_load_one rfl 9 (.tmp 3) rfl (R1) 5 rfl 98 #[.int .i64 src, .int .i64 pgn, .int .i64 sq, .int .i64 nx, .int .i64 sz, .string dt, .int .i64 ag] (0, 0) (HL2.out.get (.tail _ (.head _))) (.string dt) rfl _ Try.underlying9 rfl (by kernel_rfl) ?_))
  refine (joinedE_any dt _ hb).mono ?_
  rintro e w3 ⟨rfl, h⟩
  have HL3 := Lib.hid (show Lg w w3 [(R2, #[.int .i64 0, .int .i64 0, .int .i64 0, .int .i64 0, .int .i64 0, .string ByteArray.empty, .int .i64 0], 98), (R1, #[.int .i64 src, .int .i64 pgn, .int .i64 sq, .int .i64 nx, .int .i64 sz, .string dt, .int .i64 ag], 98)] [] from HL2.out.kept h)
  clear h
  go_wp2_with (first
    | (refine wpList_put_at rfl 9 (.tmp 6) (.tmp 5) rfl rfl (R1) 5 rfl (.string dt) rfl #[.string dt] rfl 98 #[.int .i64 src, .int .i64 pgn, .int .i64 sq, .int .i64 nx, .int .i64 sz, .string dt, .int .i64 ag] #[.int .i64 src, .int .i64 pgn, .int .i64 sq, .int .i64 nx, .int .i64 sz, .string dt, .int .i64 ag] (HL3.out.get (.tail _ (.head _))) (by kernel_rfl) (by kernel_rfl) (by kernel_rfl) (by kernel_rfl) ?_; intro w4 g4 o4; have HL4 := Lib.hid (show Lg w w4 [(R2, #[.int .i64 0, .int .i64 0, .int .i64 0, .int .i64 0, .int .i64 0, .string ByteArray.empty, .int .i64 0], 98), (R1, #[.int .i64 src, .int .i64 pgn, .int .i64 sq, .int .i64 nx, .int .i64 sz, .string dt, .int .i64 ag], 98)] [] from HL3.out.put 1 rfl g4 o4 (List.forall_mem_cons.2 ⟨Nat.ne_of_gt qR2_R1, (fun _ h => nomatch h)⟩) (fun _ h => nomatch h) rfl); clear g4 o4)
    | (refine wpList_load_at rfl 98 (.tmp 1) rfl (R1) 0 rfl 98 #[.int .i64 src, .int .i64 pgn, .int .i64 sq, .int .i64 nx, .int .i64 sz, .string dt, .int .i64 ag] (0, 0) (HL4.out.get (.tail _ (.head _))) [.int .i64 src, .int .i64 pgn, .int .i64 sq, .int .i64 nx, .int .i64 sz, .string dt, .int .i64 ag] rfl _ Try.underlying98 rfl (by kernel_rfl) ?_)
    | (refine wpList_put_at rfl 98 (.tmp 2) (.tmp 7) rfl rfl (R2) 0 rfl (.agg #[.int .i64 src, .int .i64 pgn, .int .i64 sq, .int .i64 nx, .int .i64 sz, .string dt, .int .i64 ag]) rfl #[.int .i64 src, .int .i64 pgn, .int .i64 sq, .int .i64 nx, .int .i64 sz, .string dt, .int .i64 ag] rfl 98 #[.int .i64 0, .int .i64 0, .int .i64 0, .int .i64 0, .int .i64 0, .string ByteArray.empty, .int .i64 0] #[.int .i64 src, .int .i64 pgn, .int .i64 sq, .int .i64 nx, .int .i64 sz, .string dt, .int .i64 ag] (HL4.out.get (.head _)) (by kernel_rfl) (by kernel_rfl) (by kernel_rfl) (by kernel_rfl) ?_; intro w5 g5 o5; have HL5 := Lib.hid (show Lg w w5 [(R2, #[.int .i64 src, .int .i64 pgn, .int .i64 sq, .int .i64 nx, .int .i64 sz, .string dt, .int .i64 ag], 98), (R1, #[.int .i64 src, .int .i64 pgn, .int .i64 sq, .int .i64 nx, .int .i64 sz, .string dt, .int .i64 ag], 98)] [] from HL4.out.put 0 rfl g5 o5 (List.forall_mem_cons.2 ⟨Nat.ne_of_lt qR2_R1, (fun _ h => nomatch h)⟩) (fun _ h => nomatch h) rfl); clear g5 o5))
  exact bodyPost_ret (results_cell_row (p := 2) (ty := 98) (by kernel_rfl) _ _ (R2) 98 _ (0, 0) _ rfl (HL5.out.get (.head _)) Try.underlying98 rfl (by kernel_rfl)) rfl ⟨rfl, HL5.out.below⟩
/-- A table, in memory of the call's own. -/
def TabOut (w : World) (l : List Se) (e : Ending) (w' : World) : Prop :=
  ∃ a cap, e = .returned (.slice a l.length cap) ∧ RsNew seL 7 98 w.heap.size w'.heap.size w' a l ∧ Below w.heap.size w w'
end Go.Proofs.Ytpolpkheaibonaa
