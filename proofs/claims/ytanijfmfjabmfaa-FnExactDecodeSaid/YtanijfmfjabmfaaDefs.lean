/- The table of groups: its rows, as the program lays them down, and the row of one group. Nothing that was there is written. -/
import Derived.Test.YtanijfmfjabmfaaFds
import Derived.WalkMore
namespace Go.Proofs.Ytanijfmfjabmfaa
open Go.RowKit
set_option linter.unusedVariables false

/-- A row of the table. -/
structure Df where
  p : Int
  s : Int
  r : Int
  fs : List Fd
/-- The table. -/
def dfs : List Df := [⟨127250, 8, 2, [⟨0, 8, false⟩, ⟨8, 16, false⟩, ⟨24, 16, true⟩, ⟨40, 16, true⟩, ⟨56, 2, false⟩]⟩, ⟨127488, 8, 2, [⟨0, 8, false⟩, ⟨8, 16, false⟩, ⟨24, 16, false⟩, ⟨40, 8, true⟩]⟩, ⟨128267, 8, 3, [⟨0, 8, false⟩, ⟨8, 32, false⟩, ⟨40, 16, true⟩, ⟨56, 8, false⟩]⟩, ⟨128275, 14, 6, [⟨0, 16, false⟩, ⟨16, 32, false⟩, ⟨48, 32, false⟩, ⟨80, 32, false⟩]⟩, ⟨129025, 8, 2, [⟨0, 32, true⟩, ⟨32, 32, true⟩]⟩, ⟨130306, 8, 2, [⟨0, 8, false⟩, ⟨8, 16, false⟩, ⟨24, 16, false⟩, ⟨40, 3, false⟩]⟩]
/-- The place of a group in it. -/
def ixD (p : Int) : Nat := if p = 127250 then 0 else if p = 127488 then 1 else if p = 128267 then 2 else if p = 128275 then 3 else if p = 129025 then 4 else if p = 130306 then 5 else 6
/-- The row of a group. -/
def defD (p : Int) : Df := dfs[ixD p]?.getD ⟨0, 0, 0, []⟩
/-- A row as it stands in memory. -/
structure Dx where
  p : Int
  s : Int
  r : Int
  a : Option Addr
  n : Nat
def dxL (x : Dx) : List Value := [.int .i64 x.p, .int .i64 x.s, .int .i64 x.r, .slice x.a x.n x.n]
theorem dxL_len (x : Dx) : (dxL x).length = 4 := rfl
/-- The rows, their Fields in the blocks from B on. -/
def dxs (B : Nat) : List Dx := [⟨127250, 8, 2, some ⟨B, 0, none⟩, 5⟩, ⟨127488, 8, 2, some ⟨B + 1, 0, none⟩, 4⟩, ⟨128267, 8, 3, some ⟨B + 1 + 1, 0, none⟩, 4⟩, ⟨128275, 14, 6, some ⟨B + 1 + 1 + 1, 0, none⟩, 4⟩, ⟨129025, 8, 2, some ⟨B + 1 + 1 + 1 + 1, 0, none⟩, 2⟩, ⟨130306, 8, 2, some ⟨B + 1 + 1 + 1 + 1 + 1, 0, none⟩, 4⟩]
def dxAt (B : Nat) (i : Nat) : Dx := (dxs B)[i]?.getD ⟨0, 0, 0, none, 0⟩
/-- What is found. -/
def dxD (B : Nat) (p : Int) : Dx := dxAt B (ixD p)
theorem dxAt_some {B i : Nat} (h : i < 6) : (dxs B)[i]? = some (dxAt B i) := by
  unfold dxAt
  rw [List.getElem?_eq_getElem (show i < (dxs B).length from h)]
  rfl
def pAt (i : Nat) : Int := (dxAt 0 i).p
theorem dxAt_p (B i : Nat) : (dxAt B i).p = pAt i := by
  rcases i with _ | _ | _ | _ | _ | _ | i <;> rfl
theorem ixD_le (p : Int) : ixD p ≤ 6 := by
  unfold ixD
  repeat' split
  all_goals omega
theorem ixD_at (i : Nat) (h : i < 6) : ixD (pAt i) = i := by
  rcases i with _ | _ | _ | _ | _ | _ | i
  all_goals first | rfl | omega
theorem ixD_of {p : Int} {i : Nat} (h : i < 6) (hp : pAt i = p) : ixD p = i := by rw [← hp]; exact ixD_at i h
theorem pAt_0 : pAt 0 = 127250 := rfl
theorem pAt_1 : pAt 1 = 127488 := rfl
theorem pAt_2 : pAt 2 = 128267 := rfl
theorem pAt_3 : pAt 3 = 128275 := rfl
theorem pAt_4 : pAt 4 = 129025 := rfl
theorem pAt_5 : pAt 5 = 130306 := rfl
theorem pAt_in {i : Nat} (h : i < 6) : 127250 ≤ pAt i ∧ pAt i ≤ 130306 := by
  rcases i with _ | _ | _ | _ | _ | _ | i
  · rw [pAt_0]; omega
  · rw [pAt_1]; omega
  · rw [pAt_2]; omega
  · rw [pAt_3]; omega
  · rw [pAt_4]; omega
  · rw [pAt_5]; omega
  · omega
theorem pAt_mono {i j : Nat} (hij : i < j) (hj : j < 6) : pAt i < pAt j := by
  rcases j with _ | _ | _ | _ | _ | _ | j
  all_goals first | omega | skip
  all_goals rcases i with _ | _ | _ | _ | _ | i
  all_goals first | omega | decide
/-- Ahead of a greater one there is none. -/
theorem ixD_no {p : Int} {i : Nat} (hi : i ≤ 6) (h1 : ∀ j, j < i → pAt j < p) (h2 : i < 6 → p < pAt i) : ixD p = 6 := by
  have hne : ∀ j, j < 6 → p ≠ pAt j := by
    intro j hj e
    rcases Nat.lt_or_ge j i with h | h
    · have := h1 j h
      omega
    · have h3 := h2 (by omega)
      rcases Nat.lt_or_ge i j with h4 | h4
      · have := pAt_mono h4 hj
        omega
      · obtain rfl : i = j := by omega
        omega
  have n0 := hne 0 (by omega)
  have n1 := hne 1 (by omega)
  have n2 := hne 2 (by omega)
  have n3 := hne 3 (by omega)
  have n4 := hne 4 (by omega)
  have n5 := hne 5 (by omega)
  rw [pAt_0] at n0
  rw [pAt_1] at n1
  rw [pAt_2] at n2
  rw [pAt_3] at n3
  rw [pAt_4] at n4
  rw [pAt_5] at n5
  unfold ixD
  rw [if_neg n0, if_neg n1, if_neg n2, if_neg n3, if_neg n4, if_neg n5]

/-- Objects laid down one behind the other. -/
def allocL : World → List Obj → World
  | w, [] => w
  | w, o :: r => allocL (w.alloc o) r
theorem allocL_below : ∀ (l : List Obj) (w : World), Below w.heap.size w (allocL w l)
  | [], w => Below.refl _ _
  | o :: r, w => ((Below.refl w.heap.size w).alloc (Nat.le_refl _) o).trans ((allocL_below r (w.alloc o)).mono (by simp))
theorem allocL_at : ∀ (l : List Obj) (w : World) (i : Nat) (o : Obj), l[i]? = some o → (allocL w l).heap[w.heap.size + i]? = some o
  | [], w, i, o, h => by simp at h
  | o' :: r, w, i, o, h => by
    rcases i with _ | i
    · simp at h
      subst h
      exact ((allocL_below r (w.alloc o')).block _ (by simp)).trans (heap_alloc_new w o')
    · simp at h
      have := allocL_at r (w.alloc o') i o h
      rw [show w.heap.size + (i + 1) = (w.alloc o').heap.size + i by simp; omega]
      exact this
theorem allocL_size : ∀ (l : List Obj) (w : World), (allocL w l).heap.size = w.heap.size + l.length
  | [], w => rfl
  | o :: r, w => by
    have := allocL_size r (w.alloc o)
    simp at this
    simp only [allocL, List.length_cons]
    omega

/-- The table stands in block G, the Fields of its rows in the blocks from B on. -/
structure TabAt (B G : Nat) (w : World) : Prop where
  rows : w.heap[G]? = some (.cells ((dxs B).flatMap dxL).toArray 70 (0, 0))
  flds : ∀ (i : Nat) (x : Df), dfs[i]? = some x → w.heap[B + i]? = some (.cells (x.fs.flatMap fdL).toArray 77 (0, 0))
theorem TabAt.kept {B G : Nat} {w w' : World} (h : TabAt B G w) (hb : Below w.heap.size w w') : TabAt B G w' :=
  ⟨(hb.block G (Array.getElem?_eq_some_iff.1 h.rows).1).trans h.rows, fun i x hx => (hb.block _ (Array.getElem?_eq_some_iff.1 (h.flds i x hx)).1).trans (h.flds i x hx)⟩
theorem TabAt.cells {B G : Nat} {w : World} (h : TabAt B G w) {i : Nat} (hi : i < 6) (j : Nat) (v : Value) (hv : (dxL (dxAt B i))[j]? = some v) : w.cell? ⟨G, i * 4 + j, none⟩ = some v := by
  rw [cell_of_row w G _ _ _ (0, 0) h.rows]
  have := flat_at dxL 4 dxL_len (dxs B) i _ (dxAt_some hi) j v hv
  simpa using this
theorem TabAt.lt {B G : Nat} {w : World} (h : TabAt B G w) : G < w.heap.size := (Array.getElem?_eq_some_iff.1 h.rows).1

set_option maxRecDepth 100000 in
set_option maxHeartbeats 4000000 in
theorem defs_any (w : World) :
    Calls Try.prog 125 #[] w fun e w' => ∃ G, e = .returned (.slice (some ⟨G, 0, none⟩) 6 6) ∧ TabAt w.heap.size G w' ∧ Below w.heap.size w w' := by
  have HA := Lib.hid (allocL_at [.cells (List.flatMap fdL [⟨0, 8, false⟩, ⟨8, 16, false⟩, ⟨24, 16, true⟩, ⟨40, 16, true⟩, ⟨56, 2, false⟩]).toArray 77, .cells (List.flatMap fdL [⟨0, 8, false⟩, ⟨8, 16, false⟩, ⟨24, 16, false⟩, ⟨40, 8, true⟩]).toArray 77, .cells (List.flatMap fdL [⟨0, 8, false⟩, ⟨8, 32, false⟩, ⟨40, 16, true⟩, ⟨56, 8, false⟩]).toArray 77, .cells (List.flatMap fdL [⟨0, 16, false⟩, ⟨16, 32, false⟩, ⟨48, 32, false⟩, ⟨80, 32, false⟩]).toArray 77, .cells (List.flatMap fdL [⟨0, 32, true⟩, ⟨32, 32, true⟩]).toArray 77, .cells (List.flatMap fdL [⟨0, 8, false⟩, ⟨8, 16, false⟩, ⟨24, 16, false⟩, ⟨40, 3, false⟩]).toArray 77, .cells ((dxs w.heap.size).flatMap dxL).toArray 70] w)
  have HB := Lib.hid (allocL_below [.cells (List.flatMap fdL [⟨0, 8, false⟩, ⟨8, 16, false⟩, ⟨24, 16, true⟩, ⟨40, 16, true⟩, ⟨56, 2, false⟩]).toArray 77, .cells (List.flatMap fdL [⟨0, 8, false⟩, ⟨8, 16, false⟩, ⟨24, 16, false⟩, ⟨40, 8, true⟩]).toArray 77, .cells (List.flatMap fdL [⟨0, 8, false⟩, ⟨8, 32, false⟩, ⟨40, 16, true⟩, ⟨56, 8, false⟩]).toArray 77, .cells (List.flatMap fdL [⟨0, 16, false⟩, ⟨16, 32, false⟩, ⟨48, 32, false⟩, ⟨80, 32, false⟩]).toArray 77, .cells (List.flatMap fdL [⟨0, 32, true⟩, ⟨32, 32, true⟩]).toArray 77, .cells (List.flatMap fdL [⟨0, 8, false⟩, ⟨8, 16, false⟩, ⟨24, 16, false⟩, ⟨40, 3, false⟩]).toArray 77, .cells ((dxs w.heap.size).flatMap dxL).toArray 70] w)
  go_enter Try.func125, Try.ntmps125
  go_wp2
  go_ret
  refine ⟨_, rfl, ⟨?_, ?_⟩, HB.out⟩
  · exact HA.out 6 _ rfl
  · intro i x hx
    rcases i with _ | _ | _ | _ | _ | _ | i
    · cases hx; exact HA.out 0 _ rfl
    · cases hx; exact HA.out 1 _ rfl
    · cases hx; exact HA.out 2 _ rfl
    · cases hx; exact HA.out 3 _ rfl
    · cases hx; exact HA.out 4 _ rfl
    · cases hx; exact HA.out 5 _ rfl
    · simp [dfs] at hx
set_option maxRecDepth 100000 in
theorem pgnOf_any (x : Dx) (w : World) :
    Calls Try.prog 126 #[.agg (dxL x).toArray] w fun e w' => e = .returned (.int .i64 x.p) ∧ Below w.heap.size w w' := by
  obtain ⟨p, s, r, a, n⟩ := x
  unfold dxL
  go_enter Try.func126, Try.ntmps126
  go_wp2
  go_ret
  exact ⟨rfl, (Below.refl _ _).alloc (Nat.le_refl _) _⟩
set_option maxRecDepth 100000 in
set_option maxHeartbeats 8000000 in
theorem rowOf_any (B G : Nat) (key : Int) (w : World) (h : TabAt B G w) :
    Calls Try.prog 124 #[.slice (some ⟨G, 0, none⟩) 6 6, .int .i64 key, .func (.func 126) #[] #[]] w fun e w' => e = .returned (.tuple #[.agg (dxL (dxD B key)).toArray, .bool (decide (ixD key < 6))]) ∧ Below w.heap.size w w' := by
  have HT := Lib.hid h
  have lG := h.lt
  clear h
  have H60 := Lib.hid (heap_alloc_new w (.cells #[.int .i64 0, .int .i64 0, .int .i64 0, .slice none 0 0] 70))
  have H80 := Lib.hid (heap_alloc_new (w.alloc (.cells #[.int .i64 0, .int .i64 0, .int .i64 0, .slice none 0 0] 70)) (.cells #[.int .i64 0, .int .i64 0, .int .i64 0, .slice none 0 0] 70))
  go_enter Try.func124, Try.ntmps124
  go_wp2_with fail
  go_step3
  go_wp2_with fail
  go_step3
  go_wp2_with fail
  go_loopw [9, 15] (fun v i wr => ∃ k : Nat, i = .int .i64 (k : Int) ∧ v = .bool false ∧ k ≤ 6 ∧ (∀ j, j < k → pAt j < key) ∧ Below w.heap.size w wr ∧ w.heap.size + 2 ≤ wr.heap.size ∧ wr.heap[w.heap.size]? = some (.cells #[.int .i64 0, .int .i64 0, .int .i64 0, .slice none 0 0] 70 (0, 0)) ∧ wr.heap[w.heap.size + 1]? = some (.cells #[.int .i64 0, .int .i64 0, .int .i64 0, .slice none 0 0] 70 (0, 0))) (fun _ i _ => 6 - (intOf i).toNat)
  case atStart =>
    refine ⟨0, rfl, rfl, by omega, fun j hj => absurd hj (by omega), ((Below.refl _ _).alloc (Nat.le_refl _) _).alloc (by simp) _, by simp, ?_, ?_⟩
    · rw [Below.heap_alloc _ _ _ (by simp)]
      exact H60.out
    · have := H80.out
      simpa using this
  case round =>
    obtain ⟨k, rfl, rfl, hk, hall, hb, hs2, h6, h8⟩ := hrel
    have HA := Lib.hid hall
    have H6 := Lib.hid h6
    have H8 := Lib.hid h8
    have l6 : w.heap.size < wr.heap.size := by omega
    have l8 : w.heap.size + 1 < wr.heap.size := by omega
    clear hall h6 h8 H60 H80
    by_cases hkn : k < 6
    · have hi1 : (0 : Int) ≤ (k : Int) := by omega
      have hi2 : (k : Int) < 6 := by omega
      have HCs := Lib.hid (fun j v hv => (HT.out.kept hb).cells hkn (B := B) j v hv)
      have HP := Lib.hid (dxAt_p B k)
      have HX := Lib.hid (show ∀ q, pAt k = q → q = key → dxD B key = dxAt B k from fun q h1 h2 => by unfold dxD; rw [ixD_of hkn (h1.trans h2)])
      generalize hx : dxAt B k = x at *
      obtain ⟨p, s, r, a, n⟩ := x
      unfold dxL at HCs
      dsimp only at *
      go_wp2_with (first
        | (refine wpList_load_cells rfl 70 (.tmp 17) rfl G (k * 4) rfl [.int .i64 p, .int .i64 s, .int .i64 r, .slice a n n] HCs.out _ Try.underlying70 rfl (by kernel_rfl) ?_)
        | (refine wpList_alloc_h rfl 70 rfl (.agg #[.int .i64 0, .int .i64 0, .int .i64 0, .slice none 0 0]) (by kernel_rfl) #[.int .i64 0, .int .i64 0, .int .i64 0, .slice none 0 0] rfl ?_; intro w1 R1 e1 g1 b1; have HL1 := Lib.hid (show Lg wr w1 [(R1, #[.int .i64 0, .int .i64 0, .int .i64 0, .slice none 0 0], 70)] [] from (Lg.first wr).box e1 g1 b1); clear g1 b1 e1)
        | (refine wpList_put_at rfl 70 (.tmp 11) (.tmp 18) rfl rfl (R1) 0 rfl (.agg #[.int .i64 p, .int .i64 s, .int .i64 r, .slice a n n]) rfl #[.int .i64 p, .int .i64 s, .int .i64 r, .slice a n n] rfl 70 #[.int .i64 0, .int .i64 0, .int .i64 0, .slice none 0 0] #[.int .i64 p, .int .i64 s, .int .i64 r, .slice a n n] (HL1.out.get (.head _)) (by kernel_rfl) (by kernel_rfl) (by kernel_rfl) (by kernel_rfl) ?_; intro w2 g2 o2; have HL2 := Lib.hid (show Lg wr w2 [(R1, #[.int .i64 p, .int .i64 s, .int .i64 r, .slice a n n], 70)] [] from HL1.out.put 0 rfl g2 o2 (fun _ h => nomatch h) (fun _ h => nomatch h) rfl); clear g2 o2)
        | (refine wpList_load_at rfl 70 (.tmp 11) rfl (R1) 0 rfl 70 #[.int .i64 p, .int .i64 s, .int .i64 r, .slice a n n] (0, 0) (HL2.out.get (.head _)) [.int .i64 p, .int .i64 s, .int .i64 r, .slice a n n] rfl _ Try.underlying70 rfl (by kernel_rfl) ?_))
      refine (pgnOf_any ⟨p, s, r, a, n⟩ _).mono ?_
      rintro e w3 ⟨rfl, h⟩
      have HL3 := Lib.hid (show Lg wr w3 [(R1, #[.int .i64 p, .int .i64 s, .int .i64 r, .slice a n n], 70)] [] from HL2.out.kept h)
      clear h
      have HZ6 := Lib.hid ((HL3.out.below.block w.heap.size l6).trans H6.out)
      have HZ8 := Lib.hid ((HL3.out.below.block (w.heap.size + 1) l8).trans H8.out)
      rcases Int.lt_trichotomy p key with hlt | heq | hgt
      · have e1 : (p == key) = false := by simp; omega
        have e2 : decide (key < p) = false := decide_eq_false (by omega)
        go_wp2_with fail
        go_roundw
        case rel =>
          refine ⟨k + 1, by go_num, rfl, by omega, fun j hj => ?_, hb.trans (HL3.out.below.mono hb.size), Nat.le_trans hs2 HL3.out.below.size, HZ6.out, HZ8.out⟩
          rcases Nat.lt_or_ge j k with h | h
          · exact HA.out j h
          · obtain rfl : j = k := by omega
            rw [← HP.out]
            exact hlt
        case measure => simp [intOf]; omega
      · subst heq
        have e1 : (p == p) = true := by simp
        have HV := Lib.hid (HX.out p HP.out.symm rfl)
        have HI := Lib.hid (show decide (ixD p < 6) = true from decide_eq_true (by rw [ixD_of hkn HP.out.symm]; exact hkn))
        clear HX
        have l63 := Nat.lt_of_lt_of_le l6 HL3.out.below.size
        go_wp2_with (first
          | (refine wpList_load_at rfl 70 (.tmp 11) rfl (R1) 0 rfl 70 #[.int .i64 p, .int .i64 s, .int .i64 r, .slice a n n] (0, 0) (HL3.out.get (.head _)) [.int .i64 p, .int .i64 s, .int .i64 r, .slice a n n] rfl _ Try.underlying70 rfl (by kernel_rfl) ?_)
          | (refine wpList_put_at rfl 70 (.tmp 8) (.tmp 26) rfl rfl (w.heap.size + 1) 0 rfl (.agg #[.int .i64 p, .int .i64 s, .int .i64 r, .slice a n n]) rfl #[.int .i64 p, .int .i64 s, .int .i64 r, .slice a n n] rfl 70 #[.int .i64 0, .int .i64 0, .int .i64 0, .slice none 0 0] #[.int .i64 p, .int .i64 s, .int .i64 r, .slice a n n] HZ8.out (by kernel_rfl) (by kernel_rfl) (by kernel_rfl) (by kernel_rfl) ?_; intro w4 g4 o4; have HG4 := Lib.hid g4; have HO4 := Lib.hid o4; have HZ64 := Lib.hid ((o4.block w.heap.size l63 (.inl (Nat.lt_succ_self _))).trans HZ6.out); clear g4 o4)
          | (refine wpList_load_at rfl 70 (.tmp 8) rfl (w.heap.size + 1) 0 rfl 70 #[.int .i64 p, .int .i64 s, .int .i64 r, .slice a n n] (0, 0) HG4.out [.int .i64 p, .int .i64 s, .int .i64 r, .slice a n n] rfl _ Try.underlying70 rfl (by kernel_rfl) ?_)
          | (refine wpList_put_at rfl 70 (.tmp 6) (.tmp 32) rfl rfl (w.heap.size) 0 rfl (.agg #[.int .i64 p, .int .i64 s, .int .i64 r, .slice a n n]) rfl #[.int .i64 p, .int .i64 s, .int .i64 r, .slice a n n] rfl 70 #[.int .i64 0, .int .i64 0, .int .i64 0, .slice none 0 0] #[.int .i64 p, .int .i64 s, .int .i64 r, .slice a n n] HZ64.out (by kernel_rfl) (by kernel_rfl) (by kernel_rfl) (by kernel_rfl) ?_; intro w5 g5 o5; have HG5 := Lib.hid g5; have HO5 := Lib.hid o5; clear g5 o5))
        have c0 := cell_of_row w5 w.heap.size 0 _ _ (0, 0) HG5.out
        have c1 := cell_of_row w5 w.heap.size 1 _ _ (0, 0) HG5.out
        have c2 := cell_of_row w5 w.heap.size 2 _ _ (0, 0) HG5.out
        have c3 := cell_of_row w5 w.heap.size 3 _ _ (0, 0) HG5.out
        simp only [List.getElem?_toArray, List.getElem?_cons_zero, List.getElem?_cons_succ] at c0 c1 c2 c3
        rw [Exit.noGoto_ret]
        exact bodyPost_ret (v := .tuple #[.agg #[.int .i64 p, .int .i64 s, .int .i64 r, .slice a n n], .bool true]) (by simp [results, Try.results124, go_sem, c0, c1, c2, c3]) rfl ⟨by rw [HV.out, HI.out]; rfl, HO5.out.below (HO4.out.below (hb.trans (HL3.out.below.mono hb.size)) (Nat.le_succ _) (Nat.le_trans hb.size HL3.out.below.size)) (Nat.le_refl _) (Nat.le_trans (Nat.le_trans hb.size HL3.out.below.size) HO4.out.size)⟩
      · have e1 : (p == key) = false := by simp; omega
        have e2 : decide (key < p) = true := decide_eq_true (by omega)
        have HI := Lib.hid (show ixD key = 6 from ixD_no (Nat.le_of_lt hkn) HA.out (fun _ => by rw [← HP.out]; exact hgt))
        go_wp2_with (first
          | (refine wpList_load_at rfl 70 (.tmp 8) rfl (w.heap.size + 1) 0 rfl 70 #[.int .i64 0, .int .i64 0, .int .i64 0, .slice none 0 0] (0, 0) HZ8.out [.int .i64 0, .int .i64 0, .int .i64 0, .slice none 0 0] rfl _ Try.underlying70 rfl (by kernel_rfl) ?_)
          | (refine wpList_put_at rfl 70 (.tmp 6) (.tmp 32) rfl rfl (w.heap.size) 0 rfl (.agg #[.int .i64 0, .int .i64 0, .int .i64 0, .slice none 0 0]) rfl #[.int .i64 0, .int .i64 0, .int .i64 0, .slice none 0 0] rfl 70 #[.int .i64 0, .int .i64 0, .int .i64 0, .slice none 0 0] #[.int .i64 0, .int .i64 0, .int .i64 0, .slice none 0 0] HZ6.out (by kernel_rfl) (by kernel_rfl) (by kernel_rfl) (by kernel_rfl) ?_; intro w5 g5 o5; have HG5 := Lib.hid g5; have HO5 := Lib.hid o5; clear g5 o5))
        have c0 := cell_of_row w5 w.heap.size 0 _ _ (0, 0) HG5.out
        have c1 := cell_of_row w5 w.heap.size 1 _ _ (0, 0) HG5.out
        have c2 := cell_of_row w5 w.heap.size 2 _ _ (0, 0) HG5.out
        have c3 := cell_of_row w5 w.heap.size 3 _ _ (0, 0) HG5.out
        simp only [List.getElem?_toArray, List.getElem?_cons_zero, List.getElem?_cons_succ] at c0 c1 c2 c3
        rw [Exit.noGoto_ret]
        exact bodyPost_ret (v := .tuple #[.agg #[.int .i64 0, .int .i64 0, .int .i64 0, .slice none 0 0], .bool false]) (by simp [results, Try.results124, go_sem, c0, c1, c2, c3]) rfl ⟨by unfold dxD; rw [HI.out]; rfl, HO5.out.below (hb.trans (HL3.out.below.mono hb.size)) (Nat.le_refl _) (Nat.le_trans hb.size HL3.out.below.size)⟩
    · have HI := Lib.hid (show ixD key = 6 from ixD_no (i := 6) (Nat.le_refl _) (fun j hj => HA.out j (by omega)) (fun h => absurd h (by omega)))
      go_wp2_with (first
        | (refine wpList_load_at rfl 70 (.tmp 8) rfl (w.heap.size + 1) 0 rfl 70 #[.int .i64 0, .int .i64 0, .int .i64 0, .slice none 0 0] (0, 0) H8.out [.int .i64 0, .int .i64 0, .int .i64 0, .slice none 0 0] rfl _ Try.underlying70 rfl (by kernel_rfl) ?_)
        | (refine wpList_put_at rfl 70 (.tmp 6) (.tmp 32) rfl rfl (w.heap.size) 0 rfl (.agg #[.int .i64 0, .int .i64 0, .int .i64 0, .slice none 0 0]) rfl #[.int .i64 0, .int .i64 0, .int .i64 0, .slice none 0 0] rfl 70 #[.int .i64 0, .int .i64 0, .int .i64 0, .slice none 0 0] #[.int .i64 0, .int .i64 0, .int .i64 0, .slice none 0 0] H6.out (by kernel_rfl) (by kernel_rfl) (by kernel_rfl) (by kernel_rfl) ?_; intro w5 g5 o5; have HG5 := Lib.hid g5; have HO5 := Lib.hid o5; clear g5 o5))
      have c0 := cell_of_row w5 w.heap.size 0 _ _ (0, 0) HG5.out
      have c1 := cell_of_row w5 w.heap.size 1 _ _ (0, 0) HG5.out
      have c2 := cell_of_row w5 w.heap.size 2 _ _ (0, 0) HG5.out
      have c3 := cell_of_row w5 w.heap.size 3 _ _ (0, 0) HG5.out
      simp only [List.getElem?_toArray, List.getElem?_cons_zero, List.getElem?_cons_succ] at c0 c1 c2 c3
      rw [Exit.noGoto_ret]
      exact bodyPost_ret (v := .tuple #[.agg #[.int .i64 0, .int .i64 0, .int .i64 0, .slice none 0 0], .bool false]) (by simp [results, Try.results124, go_sem, c0, c1, c2, c3]) rfl ⟨by unfold dxD; rw [HI.out]; rfl, HO5.out.below hb (Nat.le_refl _) hb.size⟩
end Go.Proofs.Ytanijfmfjabmfaa
