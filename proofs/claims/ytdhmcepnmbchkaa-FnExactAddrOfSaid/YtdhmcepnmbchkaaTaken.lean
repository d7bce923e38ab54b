/- An address more among those that are taken: the model's. Nothing that was there is written. -/
import Derived.Test.YtdhmcepnmbchkaaNumsTo
import Derived.Test.YtdhmcepnmbchkaaClaimMath
namespace Go.Proofs.Ytdhmcepnmbchkaa
open Go.RowKit Go.Joins
set_option linter.unusedVariables false

theorem nums_one (W : World) (x : Int) (T : TypeId) : NumsIn (W.alloc (.cells #[.int .i64 x] T)) (some ⟨W.heap.size, 0, none⟩) [x] := by
  refine .inr ⟨W.heap.size, 0, rfl, by simp, fun i y hy => ?_⟩
  rcases i with _ | i
  · simp at hy
    subst hy
    simp [go_sem]
  · simp at hy
set_option maxRecDepth 100000 in
set_option maxHeartbeats 4000000 in
theorem l05Take_any (a : Option Addr) (cap : Nat) (l : List Int) (x : Int) (w : World) (h : NumsIn w a l) (hlen : l.length ≤ 1048576) (hcap : l.length ≤ cap) :
    Calls Try.prog 113 #[.slice a l.length cap, .int .i64 x] w fun e w' => ∃ v, e = .returned v ∧ w'.ownsRow w.heap.size 2 1 v (takeI l x).length (ncells (takeI l x)) ∧ Below w.heap.size w w' := by
  obtain ⟨i0, hi, hz0, hz1, hz2⟩ := info_parts NumsTo.info
  obtain ⟨N, hN⟩ : ∃ N, l.length = N := ⟨_, rfl⟩
  have HNl := Lib.hid hN
  rw [hN] at hlen hcap ⊢
  clear hN
  have HI := Lib.hid h
  clear h
  go_enter Try.func113, Try.ntmps113
  go_wp2_with fail
  go_loopw [5] (fun i wr => ∃ k : Nat, i = .int .i64 (k : Int) ∧ k ≤ N ∧ (∀ (j : Nat) y, j < k → l[j]? = some y → y < x) ∧ Below w.heap.size w wr) (fun i _ => N - (intOf i).toNat)
  case atStart => exact ⟨0, rfl, by omega, fun j y hj => absurd hj (by omega), Below.refl _ _⟩
  case round =>
    obtain ⟨k, rfl, hk, hbf, hb⟩ := hrel
    have HBF := Lib.hid hbf
    clear hbf
    have hi1 : (0 : Int) ≤ (k : Int) := by omega
    have hkN : (k : Int) ≤ (N : Int) := by omega
    by_cases hgo : k < N ∧ numAt l k < x
    · obtain ⟨hkn, hlx⟩ := hgo
      have hkl : k < l.length := by have := HNl.out; omega
      obtain ⟨b, o, rfl, hlt, hc⟩ := HI.out.at (by omega)
      have d0 := (hb.cell (p := ⟨b, _, none⟩) hlt).trans (hc k _ (numAt_some hkl))
      have hi2 : (k : Int) < (N : Int) := by omega
      have HX := Lib.hid (show ∀ (j : Nat) y, j < k + 1 → l[j]? = some y → y < x from fun j y hj hy => by
        rcases Nat.lt_or_ge j k with h | h
        · exact HBF.out j y h hy
        · obtain rfl : j = k := by omega
          rw [numAt_some hkl] at hy
          obtain rfl := Option.some.inj hy
          exact hlx)
      have hd : decide (numAt l k < x) = true := decide_eq_true hlx
      generalize numAt l k = y at *
      clear hc hlx
      go_wp2_with fail
      go_roundw
      case rel => exact ⟨k + 1, by go_num, by omega, HX.out, hb⟩
      case measure => simp [intOf]; omega
    · have hkc : k = cntI l x := cntI_of (by have := HNl.out; omega) HBF.out (fun y hy hlt => hgo ⟨by have := (List.getElem?_eq_some_iff.1 hy).1; have := HNl.out; omega, by
        have hk' := (List.getElem?_eq_some_iff.1 hy).1
        rw [numAt_some hk'] at hy
        rw [Option.some.inj hy]
        exact hlt⟩)
      have HK := Lib.hid hkc
      have HT := Lib.hid (takeI_form l x)
      have hown0 : (wr.alloc (.cells #[] 2)).ownsRow w.heap.size 2 1 (.slice (some ⟨wr.heap.size, 0, none⟩) 0 0) 0 [] := World.ownsRow_lit wr #[] 0 hb.size (by unfold maxLen; omega) rfl
      have HO0 := Lib.hid hown0
      have htk : (l.take k).length = k := by rw [List.length_take]; have := HNl.out; omega
      have HTK := Lib.hid htk
      have hkcap : (k : Int) ≤ (cap : Int) := by omega
      clear hkc hown0 htk
      by_cases hkn : k < N
      · have hkl : k < l.length := by have := HNl.out; omega
        obtain ⟨b, o, rfl, hlt, hc⟩ := HI.out.at (by omega)
        have d0 := (hb.cell (p := ⟨b, _, none⟩) hlt).trans (hc k _ (numAt_some hkl))
        have hd : decide (numAt l k < x) = false := decide_eq_false (fun h => hgo ⟨hkn, h⟩)
        have hi2 : (k : Int) < (N : Int) := by omega
        obtain ⟨y, hy⟩ : ∃ y, numAt l k = y := ⟨_, rfl⟩
        have HY := Lib.hid hy
        rw [hy] at d0 hd
        clear hy hgo
        have HI1 := fun (W : World) (hW : Below w.heap.size w W) => Lib.hid (HI.out.kept hW)
        have HC := Lib.hid (hc k _ (numAt_some hkl))
        rw [HY.out] at HC
        clear hc
        by_cases hyx : y = x
        · have he : (y == x) = true := by simpa using hyx
          have HIa := fun (W : World) (hW : Below w.heap.size w W) (hq : cap = k + 1) => Lib.hid (show NumsIn W (some ⟨b, o, none⟩) (l.drop (k + 1)) from by rw [List.drop_eq_nil_of_le (by have := HNl.out; omega)]; exact NumsIn.nil _ _)
          have HIb := fun (W : World) (hW : Below w.heap.size w W) => Lib.hid ((HI.out.kept hW).drop (k + 1))
          have hk1 : ((k : Int) + 1) ≤ (N : Int) := by omega
          have HTX := Lib.hid (show takeI l x = l.take k ++ x :: l.drop (k + 1) by rw [HT.out, ← HK.out, if_pos (by rw [numAt_some hkl, HY.out, hyx])])
          go_wp2_with (first
            | (at_builtin; refine wpList_append_nums rfl (.tmp 21) (.tmp 24) 25 rfl w.heap.size 2 i0 (.int .i64 0) 8 Try.underlying25 hi hz0 hz1 hz2 rfl _ 0 [] rfl HO0.out (some ⟨b, o, none⟩) cap (l.take k) k HTK.out (by rfl) (((HI1 _ (hb.alloc hb.size _)).out).take k) (by unfold maxLen; omega) (by omega) (by simp; have := hb.size; omega) ?_; intro v2 w2 hown2 hg2; have HO2 := Lib.hid (show w2.ownsRow w.heap.size 2 1 v2 k (ncells (l.take k)) from (by simpa using hown2)); have b2 : Below w.heap.size w w2 := (hb.alloc hb.size _).grown hg2 (by simp; have := hb.size; omega) (fun q hq => (World.ownsRow.lt HO0.out q hq).1); clear hown2 hg2)
            | (at_builtin; refine wpList_append_nums rfl (.tmp 26) (.tmp 28) 25 rfl w.heap.size 2 i0 (.int .i64 0) 8 Try.underlying25 hi hz0 hz1 hz2 rfl v2 k (ncells (l.take k)) rfl (HO2.out.alloc _) (some ⟨w2.heap.size, 0, none⟩) 1 [x] 1 rfl (by rfl) (nums_one w2 x _) (by unfold maxLen; omega) (by omega) (by simp; have := b2.size; omega) ?_; intro v3 w3 hown3 hg3; have HO3 := Lib.hid hown3; have b3 : Below w.heap.size w w3 := (b2.alloc b2.size _).grown hg3 (by simp; have := b2.size; omega) (fun q hq => (World.ownsRow.lt HO2.out q hq).1); have d3 := (b3.cell (p := ⟨b, _, none⟩) hlt).trans HC.out; clear hown3 hg3)
            | (at_builtin; refine wpList_append_nums rfl (.tmp 44) (.tmp 47) 25 rfl w.heap.size 2 i0 (.int .i64 0) 8 Try.underlying25 hi hz0 hz1 hz2 rfl v3 (k + 1) (ncells (l.take k) ++ ncells [x]) rfl HO3.out _ _ (l.drop (k + 1)) (N - (k + 1)) (by rw [List.length_drop]; have := HNl.out; omega) (by rfl) (by first | exact (HIb _ b3).out | (split <;> first | exact (HIa _ b3 (by omega)).out | exact (HIb _ b3).out)) (by unfold maxLen; omega) (by omega) b3.size ?_; intro v4 w4 hown4 hg4; have HO4 := Lib.hid hown4; have b4 : Below w.heap.size w w4 := b3.grown hg4 b3.size (fun q hq => (World.ownsRow.lt HO3.out q hq).1); clear hown4 hg4))
          all_goals
            go_ret
            refine ⟨_, rfl, ?_, b4⟩
            rw [HTX.out]
            have := HO4.out
            rw [show (l.take k ++ x :: l.drop (k + 1)).length = k + 1 + (N - (k + 1)) by rw [List.length_append, List.length_cons, HTK.out, List.length_drop, HNl.out]; omega, show ncells (l.take k ++ x :: l.drop (k + 1)) = ncells (l.take k) ++ ncells [x] ++ ncells (l.drop (k + 1)) by simp [ncells]]
            exact this
        · skip
          have HIa := fun (W : World) (hW : Below w.heap.size w W) (hq : cap = k) => Lib.hid (show NumsIn W (some ⟨b, o, none⟩) (l.drop (k)) from by exact absurd hq (by omega))
          have HIb := fun (W : World) (hW : Below w.heap.size w W) => Lib.hid ((HI.out.kept hW).drop (k))
          have he : (y == x) = false := by simpa using hyx
          have HTX := Lib.hid (show takeI l x = l.take k ++ x :: l.drop (k) by rw [HT.out, ← HK.out, if_neg (by rw [numAt_some hkl, HY.out]; simpa using hyx)])
          go_wp2_with (first
            | (at_builtin; refine wpList_append_nums rfl (.tmp 21) (.tmp 24) 25 rfl w.heap.size 2 i0 (.int .i64 0) 8 Try.underlying25 hi hz0 hz1 hz2 rfl _ 0 [] rfl HO0.out (some ⟨b, o, none⟩) cap (l.take k) k HTK.out (by rfl) (((HI1 _ (hb.alloc hb.size _)).out).take k) (by unfold maxLen; omega) (by omega) (by simp; have := hb.size; omega) ?_; intro v2 w2 hown2 hg2; have HO2 := Lib.hid (show w2.ownsRow w.heap.size 2 1 v2 k (ncells (l.take k)) from (by simpa using hown2)); have b2 : Below w.heap.size w w2 := (hb.alloc hb.size _).grown hg2 (by simp; have := hb.size; omega) (fun q hq => (World.ownsRow.lt HO0.out q hq).1); clear hown2 hg2)
            | (at_builtin; refine wpList_append_nums rfl (.tmp 26) (.tmp 28) 25 rfl w.heap.size 2 i0 (.int .i64 0) 8 Try.underlying25 hi hz0 hz1 hz2 rfl v2 k (ncells (l.take k)) rfl (HO2.out.alloc _) (some ⟨w2.heap.size, 0, none⟩) 1 [x] 1 rfl (by rfl) (nums_one w2 x _) (by unfold maxLen; omega) (by omega) (by simp; have := b2.size; omega) ?_; intro v3 w3 hown3 hg3; have HO3 := Lib.hid hown3; have b3 : Below w.heap.size w w3 := (b2.alloc b2.size _).grown hg3 (by simp; have := b2.size; omega) (fun q hq => (World.ownsRow.lt HO2.out q hq).1); have d3 := (b3.cell (p := ⟨b, _, none⟩) hlt).trans HC.out; clear hown3 hg3)
            | (at_builtin; refine wpList_append_nums rfl (.tmp 44) (.tmp 47) 25 rfl w.heap.size 2 i0 (.int .i64 0) 8 Try.underlying25 hi hz0 hz1 hz2 rfl v3 (k + 1) (ncells (l.take k) ++ ncells [x]) rfl HO3.out _ _ (l.drop (k)) (N - (k)) (by rw [List.length_drop]; have := HNl.out; omega) (by rfl) (by first | exact (HIb _ b3).out | (split <;> first | exact (HIa _ b3 (by omega)).out | exact (HIb _ b3).out)) (by unfold maxLen; omega) (by omega) b3.size ?_; intro v4 w4 hown4 hg4; have HO4 := Lib.hid hown4; have b4 : Below w.heap.size w w4 := b3.grown hg4 b3.size (fun q hq => (World.ownsRow.lt HO3.out q hq).1); clear hown4 hg4))
          all_goals
            go_ret
            refine ⟨_, rfl, ?_, b4⟩
            rw [HTX.out]
            have := HO4.out
            rw [show (l.take k ++ x :: l.drop (k)).length = k + 1 + (N - (k)) by rw [List.length_append, List.length_cons, HTK.out, List.length_drop, HNl.out]; omega, show ncells (l.take k ++ x :: l.drop (k)) = ncells (l.take k) ++ ncells [x] ++ ncells (l.drop (k)) by simp [ncells]]
            exact this
      · have hkN' : k = N := by omega
        have hd : decide ((k : Int) < (N : Int)) = false := decide_eq_false (by omega)
        have HTX := Lib.hid (show takeI l x = l.take k ++ x :: l.drop (k) by rw [HT.out, ← HK.out, if_neg (by rw [List.getElem?_eq_none (by have := HNl.out; omega)]; simp)])
        have hdr : l.drop k = [] := List.drop_eq_nil_of_le (by have := HNl.out; omega)
        clear hgo
        subst hkN'
        have hkN := Int.le_refl (k : Int)
        go_wp2_with (first
          | (at_builtin; refine wpList_append_nums rfl (.tmp 21) (.tmp 24) 25 rfl w.heap.size 2 i0 (.int .i64 0) 8 Try.underlying25 hi hz0 hz1 hz2 rfl _ 0 [] rfl HO0.out _ _ (l.take k) k HTK.out (by rfl) (by first | exact ((HI.out.kept (hb.alloc hb.size _))).take k | (split <;> exact ((HI.out.kept (hb.alloc hb.size _))).take k)) (by unfold maxLen; omega) (by omega) (by simp; have := hb.size; omega) ?_; intro v2 w2 hown2 hg2; have HO2 := Lib.hid (show w2.ownsRow w.heap.size 2 1 v2 k (ncells (l.take k)) from (by simpa using hown2)); have b2 : Below w.heap.size w w2 := (hb.alloc hb.size _).grown hg2 (by simp; have := hb.size; omega) (fun q hq => (World.ownsRow.lt HO0.out q hq).1); clear hown2 hg2)
          | (at_builtin; refine wpList_append_nums rfl (.tmp 26) (.tmp 28) 25 rfl w.heap.size 2 i0 (.int .i64 0) 8 Try.underlying25 hi hz0 hz1 hz2 rfl v2 k (ncells (l.take k)) rfl (HO2.out.alloc _) (some ⟨w2.heap.size, 0, none⟩) 1 [x] 1 rfl (by rfl) (nums_one w2 x _) (by unfold maxLen; omega) (by omega) (by simp; have := b2.size; omega) ?_; intro v3 w3 hown3 hg3; have HO3 := Lib.hid hown3; have b3 : Below w.heap.size w w3 := (b2.alloc b2.size _).grown hg3 (by simp; have := b2.size; omega) (fun q hq => (World.ownsRow.lt HO2.out q hq).1); clear hown3 hg3)
          | (at_builtin; refine wpList_append_nums rfl (.tmp 44) (.tmp 47) 25 rfl w.heap.size 2 i0 (.int .i64 0) 8 Try.underlying25 hi hz0 hz1 hz2 rfl v3 (k + 1) (ncells (l.take k) ++ ncells [x]) rfl HO3.out _ _ (l.drop k) 0 (by rw [List.length_drop]; have := HNl.out; omega) (by rfl) (by rw [hdr]; exact NumsIn.nil _ _) (by unfold maxLen; omega) (by omega) b3.size ?_; intro v4 w4 hown4 hg4; have HO4 := Lib.hid hown4; have b4 : Below w.heap.size w w4 := b3.grown hg4 b3.size (fun q hq => (World.ownsRow.lt HO3.out q hq).1); clear hown4 hg4))
        all_goals
          go_ret
          refine ⟨_, rfl, ?_, b4⟩
          rw [HTX.out]
          have := HO4.out
          rw [show (l.take k ++ x :: l.drop k).length = k + 1 + 0 by rw [List.length_append, List.length_cons, HTK.out, List.length_drop, HNl.out]; omega, show ncells (l.take k ++ x :: l.drop k) = ncells (l.take k) ++ ncells [x] ++ ncells (l.drop k) by simp [ncells]]
          exact this
end Go.Proofs.Ytdhmcepnmbchkaa
