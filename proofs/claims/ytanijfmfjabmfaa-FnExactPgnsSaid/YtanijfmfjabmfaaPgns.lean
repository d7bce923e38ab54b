/- The groups' numbers: the program's and the model's, in memory of the call's own. -/
import Derived.Test.YtanijfmfjabmfaaDefOf
import Derived.Test.YtanijfmfjabmfaaLit
import Derived.Test.YtanijfmfjabmfaaRepeat
import Derived.Test.YtanijfmfjabmfaaRowsAt
namespace Go.Proofs.Ytanijfmfjabmfaa
open Go.RowKit
set_option linter.unusedVariables false

/-- The numbers of the table. -/
def pgnL : List Int := [127250, 127488, 128267, 128275, 129025, 130306]
theorem pgnL_take {k : Nat} (h : k < 6) : ncells (pgnL.take (k + 1)) = ncells (pgnL.take k) ++ [.int .i64 (pAt k)] := by
  rcases k with _ | _ | _ | _ | _ | _ | k
  all_goals first | rfl | omega
theorem pgnL_len {k : Nat} (h : k ≤ 6) : (pgnL.take k).length = k := by
  rw [List.length_take]
  show min k 6 = k
  omega
/-- What Pgns answers. -/
def PgnsOut (w : World) (e : Ending) (w' : World) : Prop := ∃ a c, e = .returned (.slice a pgnL.length c) ∧ NumsNew w.heap.size w'.heap.size w' a pgnL ∧ Below w.heap.size w w'
set_option maxRecDepth 100000 in
set_option maxHeartbeats 4000000 in
theorem specPgns_any (w : World) : Calls Try.prog 55 #[] w (PgnsOut w) := by
  unfold PgnsOut
  go_enter Try.func55, Try.ntmps55
  go_wp2
  go_ret
  refine ⟨_, _, rfl, ?_, (Below.refl _ _).alloc (Nat.le_refl _) _⟩
  have hh := heap_alloc_new w (.cells (ncells pgnL).toArray 2)
  refine .inr ⟨w.heap.size, 0, rfl, Nat.le_refl _, by simp, by simp, fun j hj => frozen_of_row _ _ _ _ _ hh, fun i x hx => ?_⟩
  refine (cell_of_row _ w.heap.size _ _ _ (0, 0) hh).trans ?_
  have := ncells_at pgnL i x hx
  simpa using this
set_option maxRecDepth 100000 in
set_option maxHeartbeats 8000000 in
theorem implPgns_any (w : World) : Calls Try.prog 54 #[] w (PgnsOut w) := by
  unfold PgnsOut
  obtain ⟨i0, hi, hz0, hz1, hz2⟩ := info_parts NumsTo.info
  have HI0 := Lib.hid hi
  clear hi
  go_enter Try.func54, Try.ntmps54
  go_wp2_with fail
  refine (defs_any _).mono ?_
  rintro e wd ⟨G, rfl, hT, hb1⟩
  obtain ⟨B, eB⟩ : ∃ B, w.heap.size = B := ⟨_, rfl⟩
  have HT := Lib.hid (show TabAt B G wd from by rw [← eB]; exact hT)
  have HB1 := Lib.hid (show Below B w wd from by rw [← eB]; exact hb1)
  have HBw := Lib.hid eB
  clear hT hb1 eB
  go_wp2_with fail
  go_loopw [1, 6] (fun v i wr => ∃ (k : Nat) (V : Value), i = .int .i64 (k : Int) ∧ V = v ∧ k ≤ 6 ∧ wr.ownsRow wd.heap.size 2 1 V (pgnL.take k).length (ncells (pgnL.take k)) ∧ Below wd.heap.size wd wr) (fun _ i _ => 6 - (intOf i).toNat)
  case atStart => exact ⟨0, _, rfl, rfl, by omega, World.ownsRow_nil _ _ _ _, Below.refl _ _⟩
  case round =>
    obtain ⟨k, V, rfl, rfl, hk, hown, hb⟩ := hrel
    have HO := Lib.hid hown
    clear hown
    by_cases hkn : k < 6
    · have hi1 : (0 : Int) ≤ (k : Int) := by omega
      have hi2 : (k : Int) < 6 := by omega
      have HCs := Lib.hid (fun j v hv => (HT.out.kept hb).cells hkn (B := B) j v hv)
      have HP := Lib.hid (dxAt_p B k)
      have HX := Lib.hid (pgnL_take hkn)
      have HLn := Lib.hid (pgnL_len (Nat.le_of_lt hkn))
      have hbs := hb.size
      generalize hx : dxAt B k = x at *
      obtain ⟨p, s, r, a, n⟩ := x
      unfold dxL at HCs
      dsimp only at *
      rw [← HP.out] at HX
      go_wp2_with (first
        | (refine wpList_load_cells rfl 70 (.tmp 8) rfl G (k * 4) rfl [.int .i64 p, .int .i64 s, .int .i64 r, .slice a n n] HCs.out _ Try.underlying70 rfl (by kernel_rfl) ?_)
        | (refine wpList_alloc_h rfl 70 rfl (.agg #[.int .i64 0, .int .i64 0, .int .i64 0, .slice none 0 0]) (by kernel_rfl) #[.int .i64 0, .int .i64 0, .int .i64 0, .slice none 0 0] rfl ?_; intro w1 R1 e1 g1 b1; have HL1 := Lib.hid (show Lg wr w1 [(R1, #[.int .i64 0, .int .i64 0, .int .i64 0, .slice none 0 0], 70)] [] from (Lg.first wr).box e1 g1 b1); clear g1 b1 e1)
        | (refine wpList_put_at rfl 70 (.tmp 3) (.tmp 9) rfl rfl (R1) 0 rfl (.agg #[.int .i64 p, .int .i64 s, .int .i64 r, .slice a n n]) rfl #[.int .i64 p, .int .i64 s, .int .i64 r, .slice a n n] rfl 70 #[.int .i64 0, .int .i64 0, .int .i64 0, .slice none 0 0] #[.int .i64 p, .int .i64 s, .int .i64 r, .slice a n n] (HL1.out.get (.head _)) (by kernel_rfl) (by kernel_rfl) (by kernel_rfl) (by kernel_rfl) ?_; intro w2 g2 o2; have HL2 := Lib.hid (show Lg wr w2 [(R1, #[.int .i64 p, .int .i64 s, .int .i64 r, .slice a n n], 70)] [] from HL1.out.put 0 rfl g2 o2 (fun _ h => nomatch h) (fun _ h => nomatch h) rfl); clear g2 o2)
        | (refine wpList_load_one rfl 2 (.tmp 11) rfl (R1) 0 rfl 70 #[.int .i64 p, .int .i64 s, .int .i64 r, .slice a n n] (0, 0) (HL2.out.get (.head _)) (.int .i64 p) rfl _ Try.underlying2 rfl (by kernel_rfl) ?_)
        | (at_builtin; have HOk := Lib.hid (show World.ownsRow (w2.alloc (.cells #[.int .i64 p] 2)) wd.heap.size 2 1 V k (ncells (pgnL.take k)) from by have h := HO.out; rw [HLn.out] at h; exact owns_below h (HL2.out.below.alloc HL2.out.below.size _)); refine wpList_append_own _ rfl (.tmp 10) (.tmp 13) 25 rfl wd.heap.size 2 i0 (.int .i64 0) 1 8 Try.underlying25 HI0.out hz0 hz1 hz2 rfl (by decide) V k (ncells (pgnL.take k)) rfl HOk.out ⟨w2.heap.size, 0, none⟩ 1 1 [.int .i64 p] rfl rfl (one_cells (cell_new1 _ _ _)) (by simp [Value.oneCell']) (by unfold maxLen; omega) (by omega) (Nat.le_trans hbs (Nat.le_trans HL2.out.below.size (by simp))) ?_; intro v' w4 hv hg _; have HV := Lib.hid hv; have HG := Lib.hid hg; clear hv hg))
      go_roundw
      case rel =>
        refine ⟨k + 1, _, by go_num, rfl, by omega, ?_, ?_⟩
        · rw [pgnL_len (by omega), HX.out]
          exact HV.out
        · exact (hb.trans ((HL2.out.below.alloc HL2.out.below.size _).mono hb.size)).grown HG.out (Nat.le_trans hbs (Nat.le_trans HL2.out.below.size (by simp))) (fun q hq => (World.ownsRow.lt HOk.out q hq).1)
      case measure => simp [intOf]; omega
    · obtain rfl : k = 6 := by omega
      go_wp2_with fail
      obtain ⟨a, c, rfl, hc, hn⟩ := NumsNew.of_owns (l := pgnL) (show wr.ownsRow wd.heap.size 2 1 V pgnL.length (ncells pgnL) from HO.out)
      go_ret
      have h1 := HB1.out
      rw [← HBw.out] at h1
      exact ⟨a, c, rfl, hn.wide h1.size (Nat.le_refl _), h1.trans (hb.mono h1.size)⟩
end Go.Proofs.Ytanijfmfjabmfaa
