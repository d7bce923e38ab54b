/- What the program's joined answers: two texts put together, in new memory. For all texts of up to a million bytes; nothing that was there is written. -/
import Derived.Test.YtioldepgoodipaaGreatOwn
namespace Go.Proofs.YtioldepgoodipaaGreat
open Go.RowKit
set_option linter.unusedVariables false
theorem Joined.info8 : (Tryz.prog.info? 5).map (fun i => (i.zero, i.size, i.bytes)) = some (some (.int .u8 0), 1, 1) := by kernel_rfl
theorem Text.one8 : (Tryz.prog.info? 5).map (·.size) = some 1 := by kernel_rfl

theorem splice_both (a b : List Value) (l : List Value) (h : l.length = a.length + b.length) : splice (splice l 0 a) a.length b = a ++ b := by
  unfold splice
  simp [h]
theorem bsize (a : ByteArray) : (bcells a.data.toList).length = a.size := by simp [bcells]
theorem joined_cells (a b : ByteArray) (cur : List Value) (h : cur.length = a.size + b.size) :
    (splice (splice cur 0 (bcells a.data.toList)) a.size (bcells b.data.toList)).toArray.toList.take (a.size + b.size) = bcells (a.data.toList ++ b.data.toList) := by
  have e := splice_both (bcells a.data.toList) (bcells b.data.toList) cur (by rw [bsize, bsize]; exact h)
  rw [bsize] at e
  rw [e, bcells_append]
  exact List.take_of_length_le (by simp [bsize])
theorem joined_cells0 (a : ByteArray) (cur : List Value) (h : cur.length = a.size) :
    (splice (splice cur 0 (bcells a.data.toList)) 0 (bcells ByteArray.empty.data.toList)).toArray.toList.take a.size = bcells a.data.toList := by
  have e := splice_both (bcells a.data.toList) [] cur (by rw [bsize]; exact h)
  have e2 : splice (splice cur 0 (bcells a.data.toList)) 0 (bcells ByteArray.empty.data.toList) = bcells a.data.toList := by
    rw [← (by simpa using e : splice (splice cur 0 (bcells a.data.toList)) (bcells a.data.toList).length [] = bcells a.data.toList)]
    have e0 : bcells ByteArray.empty.data.toList = [] := rfl
    rw [e0]
    simp [splice]
    rw [bsize]
    omega
  rw [e2]
  exact List.take_of_length_le (by simp [bsize])
theorem empty_le : ByteArray.empty.size ≤ 0 := Nat.le_refl 0
theorem empty_pos : ¬ 0 < ByteArray.empty.size := Nat.lt_irrefl 0
theorem empty_fit (l : List Value) : 0 + ByteArray.empty.size ≤ l.length := Nat.zero_le _
theorem empty_of_size {b : ByteArray} (h : b.size = 0) : b = ByteArray.empty := by
  apply ByteArray.ext
  have : b.data.size = 0 := h
  exact Array.eq_empty_of_size_eq_zero this

set_option maxHeartbeats 400000 in
theorem joined0_any (a : ByteArray) (w : World) (ha : a.size ≤ 1000000) :
    Calls Tryz.prog 170 #[.string a, .string ByteArray.empty] w fun e w' => e = .returned (.string ⟨a.data.toList.toArray⟩) ∧ Below w.heap.size w w' := by
  obtain ⟨i0, hi, hz0, hz1, hz2⟩ := info_parts Joined.info8
  go_enter Tryz.func170, Tryz.ntmps170
  go_wp2_with (first
    | (at_make; refine wpList_make_full _ rfl (.tmp 11) (.tmp 11) 153 rfl w.heap.size 5 i0 (.int .u8 0) 1 Tryz.underlying153 hi hz0 hz1 .i64 .i64 (a.size : Int) (a.size : Int) a.size (by rfl) (by rfl) (by omega) (by omega) (by rw [hz2]; omega) (by unfold maxLen; omega) (Nat.le_refl _) ?_; intro w1 hown hgrow; have hb1 : Below w.heap.size w w1 := (Below.refl _ _).grown hgrow (Nat.le_refl _) (fun _ h => by cases h); obtain ⟨cur, hcur, hlen⟩ := own_row hown; have HC := Lib.hid hcur; have HN := Lib.hid hlen; clear hcur hlen hown hgrow)
    | (with_reducible refine wpList_copy_str rfl (.tmp 13) (.tmp 14) 153 9 rfl 5 Tryz.underlying153 Text.one8 a rfl _ _ _ rfl (by omega) w.heap.size 0 (fun _ => rfl) cur 5 HC.out (by have := HN.out; omega) w.heap.size w hb1 (Nat.le_refl _) ?_; intro w2 HC2 hb2)
    | (with_reducible refine wpList_copy_str rfl (.tmp 18) (.tmp 19) 153 9 rfl 5 Tryz.underlying153 Text.one8 ByteArray.empty rfl _ _ _ rfl empty_le w.heap.size 0 (fun h => absurd h empty_pos) (splice cur 0 (bcells a.data.toList)) 5 HC2.out (empty_fit _) w.heap.size w hb2 (Nat.le_refl _) ?_; intro w3 HC3 hb3; have hcv := conv_row (P := Tryz.prog) HC3.out a.size (by simp) (joined_cells0 a cur HN.out) 153 9 Tryz.underlying153 Tryz.underlying5 Tryz.underlying9))
  go_ret
  exact ⟨rfl, hb3⟩

set_option maxHeartbeats 400000 in
theorem joined_any (a b : ByteArray) (w : World) (ha : a.size ≤ 1000000) (hb : b.size ≤ 1000000) :
    Calls Tryz.prog 170 #[.string a, .string b] w fun e w' => e = .returned (.string ⟨(a.data.toList ++ b.data.toList).toArray⟩) ∧ Below w.heap.size w w' := by
  obtain ⟨i0, hi, hz0, hz1, hz2⟩ := info_parts Joined.info8
  by_cases hb0 : b = ByteArray.empty
  · subst hb0
    have e : a.data.toList ++ ByteArray.empty.data.toList = a.data.toList := List.append_nil _
    rw [e]
    exact joined0_any a w ha
  have hb1 : 1 ≤ b.size := by
    rcases Nat.lt_or_ge 0 b.size with h | h
    · exact h
    · exact absurd (empty_of_size (by omega)) hb0
  go_enter Tryz.func170, Tryz.ntmps170
  go_wp2_with (first
    | (at_make; refine wpList_make_full _ rfl (.tmp 11) (.tmp 11) 153 rfl w.heap.size 5 i0 (.int .u8 0) 1 Tryz.underlying153 hi hz0 hz1 .i64 .i64 ((a.size : Int) + (b.size : Int)) ((a.size : Int) + (b.size : Int)) (a.size + b.size) (by rfl) (by rfl) (by omega) (by omega) (by rw [hz2]; omega) (by unfold maxLen; omega) (Nat.le_refl _) ?_; intro w1 hown hgrow; have hb1 : Below w.heap.size w w1 := (Below.refl _ _).grown hgrow (Nat.le_refl _) (fun _ h => by cases h); obtain ⟨cur, hcur, hlen⟩ := own_row hown; have HC := Lib.hid hcur; have HN := Lib.hid hlen; clear hcur hlen hown hgrow)
    | (with_reducible refine wpList_copy_str rfl (.tmp 13) (.tmp 14) 153 9 rfl 5 Tryz.underlying153 Text.one8 a rfl _ _ _ rfl (by omega) w.heap.size 0 (fun _ => rfl) cur 5 HC.out (by have := HN.out; omega) w.heap.size w hb1 (Nat.le_refl _) ?_; intro w2 HC2 hb2)
    | (with_reducible refine wpList_copy_str rfl (.tmp 18) (.tmp 19) 153 9 rfl 5 Tryz.underlying153 Text.one8 b rfl _ _ _ rfl (by omega) w.heap.size a.size (fun _ => rfl) (splice cur 0 (bcells a.data.toList)) 5 HC2.out (by rw [length_splice _ _ _ (by have := HN.out; have := bsize a; omega)]; have := HN.out; omega) w.heap.size w hb2 (Nat.le_refl _) ?_; intro w3 HC3 hb3; have hcv := conv_row (P := Tryz.prog) HC3.out (a.size + b.size) (by simp) (joined_cells a b cur HN.out) 153 9 Tryz.underlying153 Tryz.underlying5 Tryz.underlying9))
  go_ret
  exact ⟨rfl, hb3⟩
end Go.Proofs.YtioldepgoodipaaGreat
