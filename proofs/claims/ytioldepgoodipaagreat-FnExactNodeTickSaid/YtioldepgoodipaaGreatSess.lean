/- Sessions, one by one: whether one is right, and which of two is ahead: the program's and the model's. Nothing that was there is written. -/
import Derived.Test.YtioldepgoodipaaGreatBroad
import Derived.Test.YtioldepgoodipaaGreatRs
import Derived.BigQuiet
import Derived.Deep.RegionHeld3
namespace Go.Proofs.YtioldepgoodipaaGreat
open Go.RowKit
set_option linter.unusedVariables false

/-- A Session. -/
structure Se where
  src : Int
  pgn : Int
  sq : Int
  nx : Int
  sz : Int
  dt : ByteArray
  ag : Int
/-- Its cells. -/
def seL (x : Se) : List Value := [.int .i64 x.src, .int .i64 x.pgn, .int .i64 x.sq, .int .i64 x.nx, .int .i64 x.sz, .string x.dt, .int .i64 x.ag]
theorem seL_len (x : Se) : (seL x).length = 7 := rfl
theorem seL_one (x : Se) : ∀ u ∈ seL x, u.oneCell' = true := by
  intro u hu
  simp [seL] at hu
  rcases hu with rfl | rfl | rfl | rfl | rfl | rfl | rfl <;> rfl
/-- Numbers of 64 bits, and a text. -/
def SeOk (x : Se) : Prop := (-9223372036854775808 ≤ x.src ∧ x.src ≤ 9223372036854775807) ∧ (-9223372036854775808 ≤ x.pgn ∧ x.pgn ≤ 9223372036854775807) ∧ (-9223372036854775808 ≤ x.sq ∧ x.sq ≤ 9223372036854775807) ∧ (-9223372036854775808 ≤ x.nx ∧ x.nx ≤ 9223372036854775807) ∧ (-9223372036854775808 ≤ x.sz ∧ x.sz ≤ 9223372036854775807) ∧ x.dt.size ≤ maxLen ∧ (-9223372036854775808 ≤ x.ag ∧ x.ag ≤ 9223372036854775807)
/-- It is right. -/
def seB (x : Se) : Bool := inB 0 255 x.src && (inB 0 131071 x.pgn && (inB 0 7 x.sq && (inB 1 31 x.nx && (inB 7 223 x.sz && (inB 0 750 x.ag && (((x.dt.size : Int) == 6 + 7 * (x.nx - 1)) && decide ((x.dt.size : Int) < x.sz)))))))
/-- It is ahead of that src and pgn. -/
def lessB (x : Se) (s p : Int) : Bool := decide (x.src < s) || (x.src == s && decide (x.pgn < p))
/-- As the program says it. -/
def cmpI (a b : Int) : Int := if a < b then -1 else if b < a then 1 else 0
def cmpS (x y : Se) : Int := if cmpI x.src y.src = 0 then cmpI x.pgn y.pgn else cmpI x.src y.src
theorem cmpI_range (a b : Int) : cmpI a b = -1 ∨ cmpI a b = 0 ∨ cmpI a b = 1 := by
  unfold cmpI
  split
  · exact .inl rfl
  · split
    · exact .inr (.inr rfl)
    · exact .inr (.inl rfl)
theorem cmpS_neg (x y : Se) : decide (0 ≤ cmpS x y) = !(lessB x y.src y.pgn) := by
  unfold cmpS cmpI lessB
  rcases Int.lt_trichotomy x.src y.src with h | h | h
  · simp [h]
  · simp [h]
    rcases Int.lt_trichotomy x.pgn y.pgn with h' | h' | h'
    · simp [h']
    · simp [h']
    · simp [h', show ¬ x.pgn < y.pgn by omega]
  · simp [h, show ¬ x.src < y.src by omega, show ¬ x.src = y.src by omega]

set_option maxRecDepth 100000 in
theorem l06Less_any (x : Se) (s p : Int) (w : World) :
    Calls Tryz.prog 155 #[.agg (seL x).toArray, .int .i64 s, .int .i64 p] w fun e w' => e = .returned (.bool (lessB x s p)) ∧ Below w.heap.size w w' := by
  obtain ⟨src, pgn, sq, nx, sz, dt, ag⟩ := x
  unfold seL
  dsimp only
  by_cases h1 : src < s
  · have d1 : decide (src < s) = true := decide_eq_true h1
    go_enter Tryz.func155, Tryz.ntmps155
    go_wp2
    go_ret
    exact ⟨by simp [lessB, h1], (Below.refl _ _).alloc (Nat.le_refl _) _⟩
  have d1 : decide (src < s) = false := decide_eq_false h1
  by_cases h2 : src = s
  · have d2 : (src == s) = true := by simpa using h2
    clear h1
    go_enter Tryz.func155, Tryz.ntmps155
    go_wp2
    go_ret
    exact ⟨by simp [lessB, h2], (Below.refl _ _).alloc (Nat.le_refl _) _⟩
  · have d2 : (src == s) = false := by simpa using h2
    go_enter Tryz.func155, Tryz.ntmps155
    go_wp2
    go_ret
    exact ⟨by simp [lessB, h1, h2], (Below.refl _ _).alloc (Nat.le_refl _) _⟩
theorem isNaNc_any (a : Int) (w : World) :
    Calls Tryz.prog 242 #[.int .i64 a] w fun e w' => e = .returned (.bool false) ∧ w = w' := by
  have d : (a != a) = false := by simp
  go_enter Tryz.func242, Tryz.ntmps242
  go_wp2
  go_ret
  exact ⟨rfl, rfl⟩
theorem cmpCompare_any (a b : Int) (w : World) :
    Calls Tryz.prog 223 #[.int .i64 a, .int .i64 b] w fun e w' => e = .returned (.int .i64 (cmpI a b)) ∧ w = w' := by
  by_cases h1 : a < b
  · have d1 : decide (a < b) = true := decide_eq_true h1
    have HV := Lib.hid (show cmpI a b = -1 by simp [cmpI, h1])
    go_enter Tryz.func223, Tryz.ntmps223
    go_wp2_with (go_at_call 242; refine (isNaNc_any _ _).mono ?_; rintro e w' ⟨rfl, rfl⟩)
    go_ret
    exact ⟨by rw [HV.out]; rfl, rfl⟩
  have d1 : decide (a < b) = false := decide_eq_false h1
  by_cases h2 : b < a
  · have d2 : decide (b < a) = true := decide_eq_true h2
    have HV := Lib.hid (show cmpI a b = 1 by simp [cmpI, h1, h2])
    go_enter Tryz.func223, Tryz.ntmps223
    go_wp2_with (go_at_call 242; refine (isNaNc_any _ _).mono ?_; rintro e w' ⟨rfl, rfl⟩)
    go_ret
    exact ⟨by rw [HV.out]; rfl, rfl⟩
  · have d2 : decide (b < a) = false := decide_eq_false h2
    have HV := Lib.hid (show cmpI a b = 0 by simp [cmpI, h1, h2])
    go_enter Tryz.func223, Tryz.ntmps223
    go_wp2_with (go_at_call 242; refine (isNaNc_any _ _).mono ?_; rintro e w' ⟨rfl, rfl⟩)
    go_ret
    exact ⟨by rw [HV.out]; rfl, rfl⟩
/-- cmp.Or of two numbers in a literal. -/
theorem cmpOr_two (p q V : Int) (hV : (if p = 0 then q else p) = V) (b : Nat) (w : World) (h0 : w.cell? ⟨b, 0, none⟩ = some (.int .i64 p)) (h1 : w.cell? ⟨b, 1, none⟩ = some (.int .i64 q)) :
    Calls Tryz.prog 222 #[.slice (some ⟨b, 0, none⟩) 2 2] w fun e w' => e = .returned (.int .i64 V) ∧ w = w' := by
  subst hV
  by_cases hp : p = 0
  · have d1 : (p != 0) = false := by simpa using hp
    by_cases hq : q = 0
    · have d2 : (q != 0) = false := by simpa using hq
      go_enter Tryz.func222, Tryz.ntmps222
      go_wp2
      refine wp_loop_rounds 3 ?_
      rw [rounds_succ]; go_wp2
      rw [rounds_succ]; go_wp2
      rw [rounds_succ]; go_wp2
      go_ret
      exact ⟨by simp, rfl⟩
    · have d2 : (q != 0) = true := by simpa using hq
      go_enter Tryz.func222, Tryz.ntmps222
      go_wp2
      refine wp_loop_rounds 3 ?_
      rw [rounds_succ]; go_wp2
      rw [rounds_succ]; go_wp2
      go_ret
      exact ⟨by simp, rfl⟩
  · have d1 : (p != 0) = true := by simpa using hp
    go_enter Tryz.func222, Tryz.ntmps222
    go_wp2
    refine wp_loop_rounds 3 ?_
    rw [rounds_succ]; go_wp2
    go_ret
    exact ⟨by simp, rfl⟩
theorem two_new (w : World) (A B : Obj) (p q : Value) (T : TypeId) :
    (((w.alloc A).alloc B).alloc (.cells #[p, q] T)).drew.cell? ⟨w.heap.size + 1 + 1, 0, none⟩ = some p ∧ (((w.alloc A).alloc B).alloc (.cells #[p, q] T)).drew.cell? ⟨w.heap.size + 1 + 1, 1, none⟩ = some q := by
  have h := heap_alloc_new ((w.alloc A).alloc B) (.cells #[p, q] T)
  have hs : ((w.alloc A).alloc B).heap.size = w.heap.size + 1 + 1 := by simp
  rw [hs] at h
  exact ⟨cell_of_row _ _ 0 _ _ (0, 0) h, cell_of_row _ _ 1 _ _ (0, 0) h⟩
theorem new_two (w : World) (p q : Value) (T : TypeId) :
    (w.alloc (.cells #[p, q] T)).drew.cell? ⟨w.heap.size, 0, none⟩ = some p ∧ (w.alloc (.cells #[p, q] T)).drew.cell? ⟨w.heap.size, 1, none⟩ = some q :=
  ⟨cell_of_row _ _ 0 _ _ (0, 0) (heap_alloc_new w _), cell_of_row _ _ 1 _ _ (0, 0) (heap_alloc_new w _)⟩
section
variable {U W W' : World} {p0 p1 p2 p3 : Addr} {v0 v1 v2 v3 : Value}
theorem quad_first (h0 : U.cell? p0 = some v0) (h1 : U.cell? p1 = some v1) (h2 : U.cell? p2 = some v2) (h3 : U.cell? p3 = some v3) : (U.drew.cell? p0 = some v0 ∧ U.drew.cell? p1 = some v1 ∧ U.drew.cell? p2 = some v2 ∧ U.drew.cell? p3 = some v3) ∧ Below U.heap.size U U.drew :=
  ⟨⟨h0, h1, h2, h3⟩, (Below.refl _ _).drew⟩
theorem quad_call (l0 : p0.block < U.heap.size) (l1 : p1.block < U.heap.size) (l2 : p2.block < U.heap.size) (l3 : p3.block < U.heap.size) (h : (W.cell? p0 = some v0 ∧ W.cell? p1 = some v1 ∧ W.cell? p2 = some v2 ∧ W.cell? p3 = some v3) ∧ Below U.heap.size U W) (hb : Below W.heap.size W W') :
    (W'.cell? p0 = some v0 ∧ W'.cell? p1 = some v1 ∧ W'.cell? p2 = some v2 ∧ W'.cell? p3 = some v3) ∧ Below U.heap.size U W' :=
  ⟨⟨(hb.cell (Nat.lt_of_lt_of_le l0 h.2.size)).trans h.1.1, (hb.cell (Nat.lt_of_lt_of_le l1 h.2.size)).trans h.1.2.1, (hb.cell (Nat.lt_of_lt_of_le l2 h.2.size)).trans h.1.2.2.1, (hb.cell (Nat.lt_of_lt_of_le l3 h.2.size)).trans h.1.2.2.2⟩, h.2.trans (hb.mono h.2.size)⟩
theorem quad_alloc (l0 : p0.block < U.heap.size) (l1 : p1.block < U.heap.size) (l2 : p2.block < U.heap.size) (l3 : p3.block < U.heap.size) (h : (W.cell? p0 = some v0 ∧ W.cell? p1 = some v1 ∧ W.cell? p2 = some v2 ∧ W.cell? p3 = some v3) ∧ Below U.heap.size U W) (o : Obj) :
    ((W.alloc o).cell? p0 = some v0 ∧ (W.alloc o).cell? p1 = some v1 ∧ (W.alloc o).cell? p2 = some v2 ∧ (W.alloc o).cell? p3 = some v3) ∧ Below U.heap.size U (W.alloc o) :=
  quad_call l0 l1 l2 l3 h ((Below.refl _ _).alloc (Nat.le_refl _) o)
end
set_option maxRecDepth 100000 in
set_option maxHeartbeats 2000000 in
theorem bySrc_any (x y : Se) (w : World) :
    Calls Tryz.prog 191 #[.agg (seL x).toArray, .agg (seL y).toArray] w fun e w' => e = .returned (.int .i64 (cmpS x y)) ∧ Below w.heap.size w w' := by
  obtain ⟨src, pgn, sq, nx, sz, dt, ag⟩ := x
  obtain ⟨src', pgn', sq', nx', sz', dt', ag'⟩ := y
  unfold seL cmpS
  dsimp only
  generalize hP : cmpI src src' = p
  generalize hQ : cmpI pgn pgn' = q
  have HP := Lib.hid hP
  have HQ := Lib.hid hQ
  obtain ⟨V, hV⟩ : ∃ V, (if p = 0 then q else p) = V := ⟨_, rfl⟩
  rw [hV]
  have HV := Lib.hid hV
  clear hP hQ hV
  go_enter Tryz.func191, Tryz.ntmps191
  go_wp2_with fail
  have bU : Below w.heap.size w ((w.alloc (.cells #[.int .i64 src, .int .i64 pgn, .int .i64 sq, .int .i64 nx, .int .i64 sz, .string dt, .int .i64 ag] 159)).alloc (.cells #[.int .i64 src', .int .i64 pgn', .int .i64 sq', .int .i64 nx', .int .i64 sz', .string dt', .int .i64 ag'] 159)) := ((Below.refl _ _).alloc (Nat.le_refl _) _).alloc (by simp) _
  have hA := (heap_alloc_old (w.alloc (.cells #[.int .i64 src, .int .i64 pgn, .int .i64 sq, .int .i64 nx, .int .i64 sz, .string dt, .int .i64 ag] 159)) (.cells #[.int .i64 src', .int .i64 pgn', .int .i64 sq', .int .i64 nx', .int .i64 sz', .string dt', .int .i64 ag'] 159) (r := w.heap.size) (by simp)).trans (heap_alloc_new w _)
  have hB := heap_alloc_new (w.alloc (.cells #[.int .i64 src, .int .i64 pgn, .int .i64 sq, .int .i64 nx, .int .i64 sz, .string dt, .int .i64 ag] 159)) (.cells #[.int .i64 src', .int .i64 pgn', .int .i64 sq', .int .i64 nx', .int .i64 sz', .string dt', .int .i64 ag'] 159)
  rw [show (w.alloc (.cells #[.int .i64 src, .int .i64 pgn, .int .i64 sq, .int .i64 nx, .int .i64 sz, .string dt, .int .i64 ag] 159)).heap.size = w.heap.size + 1 by simp] at hB
  generalize (w.alloc (.cells #[.int .i64 src, .int .i64 pgn, .int .i64 sq, .int .i64 nx, .int .i64 sz, .string dt, .int .i64 ag] 159)).alloc (.cells #[.int .i64 src', .int .i64 pgn', .int .i64 sq', .int .i64 nx', .int .i64 sz', .string dt', .int .i64 ag'] 159) = U at *
  have A0 : U.cell? ⟨w.heap.size, 0, none⟩ = some (.int .i64 src) := cell_of_row _ _ 0 _ _ (0, 0) hA
  have A1 : U.cell? ⟨w.heap.size, 1, none⟩ = some (.int .i64 pgn) := cell_of_row _ _ 1 _ _ (0, 0) hA
  have B0 : U.cell? ⟨w.heap.size + 1, 0, none⟩ = some (.int .i64 src') := cell_of_row _ _ 0 _ _ (0, 0) hB
  have B1 : U.cell? ⟨w.heap.size + 1, 1, none⟩ = some (.int .i64 pgn') := cell_of_row _ _ 1 _ _ (0, 0) hB
  have lA : w.heap.size < U.heap.size := (Array.getElem?_eq_some_iff.1 hA).1
  have lB : w.heap.size + 1 < U.heap.size := (Array.getElem?_eq_some_iff.1 hB).1
  go_region_held3 (fun W => (W.cell? ⟨w.heap.size, 0, none⟩ = some (.int .i64 src) ∧ W.cell? ⟨w.heap.size, 1, none⟩ = some (.int .i64 pgn) ∧ W.cell? ⟨w.heap.size + 1, 0, none⟩ = some (.int .i64 src') ∧ W.cell? ⟨w.heap.size + 1, 1, none⟩ = some (.int .i64 pgn')) ∧ Below U.heap.size U W)
    (first | assumption | exact quad_first A0 A1 B0 B1 | exact quad_alloc lA lA lB lB (by assumption) _ | exact quad_call lA lA lB lB (by assumption) (by assumption))
    (first
      | (go_at_call 223; refine (cmpCompare_any _ _ _).mono ?_; (first | rw [HP.out] | rw [HQ.out]); rintro e w' ⟨rfl, rfl⟩)
      | (go_at_call 222; refine (cmpOr_two p q V HV.out _ _ (new_two _ _ _ _).1 (new_two _ _ _ _).2).mono ?_; rintro e w' ⟨rfl, rfl⟩))
  all_goals rename_i hH
  all_goals go_wp2
  all_goals go_ret
  all_goals exact ⟨rfl, bU.trans (hH.2.mono (Nat.le_of_lt lA))⟩
set_option maxRecDepth 100000 in
set_option maxHeartbeats 4000000 in
theorem sessionRight_any (x : Se) (w : World) (hx : SeOk x) :
    Calls Tryz.prog 190 #[.agg (seL x).toArray] w fun e w' => e = .returned (.bool (seB x)) ∧ Below w.heap.size w w' := by
  obtain ⟨src, pgn, sq, nx, sz, dt, ag⟩ := x
  obtain ⟨k0, k1, k2, k3, k4, k5, k6⟩ := hx
  obtain ⟨V, hV⟩ : ∃ V, seB ⟨src, pgn, sq, nx, sz, dt, ag⟩ = V := ⟨_, rfl⟩
  rw [hV]
  unfold seB at hV
  unfold seL
  dsimp only at *
  unfold maxLen at k5
  rcases c0 : inB 0 255 src
  · have HV := Lib.hid (show V = false by rw [← hV]; simp [c0])
    clear hV
    go_enter Tryz.func190, Tryz.ntmps190
    go_wp2_with (go_at_call 131; refine (from0_any _ _ _).mono ?_; (first | rw [c0]); rintro e w' ⟨rfl, rfl⟩)
    go_ret
    exact ⟨by rw [HV.out]; rfl, (Below.refl _ _).alloc (Nat.le_refl _) _⟩
  rcases c1 : inB 0 131071 pgn
  · have HV := Lib.hid (show V = false by rw [← hV]; simp [c0, c1])
    clear hV
    go_enter Tryz.func190, Tryz.ntmps190
    go_wp2_with (go_at_call 131; refine (from0_any _ _ _).mono ?_; (first | rw [c0] | rw [c1]); rintro e w' ⟨rfl, rfl⟩)
    go_ret
    exact ⟨by rw [HV.out]; rfl, (Below.refl _ _).alloc (Nat.le_refl _) _⟩
  rcases c2 : inB 0 7 sq
  · have HV := Lib.hid (show V = false by rw [← hV]; simp [c0, c1, c2])
    clear hV
    go_enter Tryz.func190, Tryz.ntmps190
    go_wp2_with (go_at_call 131; refine (from0_any _ _ _).mono ?_; (first | rw [c0] | rw [c1] | rw [c2]); rintro e w' ⟨rfl, rfl⟩)
    go_ret
    exact ⟨by rw [HV.out]; rfl, (Below.refl _ _).alloc (Nat.le_refl _) _⟩
  rcases c3 : inB 0 750 ag
  · have HV := Lib.hid (show V = false by rw [← hV]; simp [c0, c1, c2, c3])
    clear hV
    go_enter Tryz.func190, Tryz.ntmps190
    go_wp2_with (go_at_call 131; refine (from0_any _ _ _).mono ?_; (first | rw [c0] | rw [c1] | rw [c2] | rw [c3]); rintro e w' ⟨rfl, rfl⟩)
    go_ret
    exact ⟨by rw [HV.out]; rfl, (Below.refl _ _).alloc (Nat.le_refl _) _⟩
  by_cases h0 : sz ≤ 6
  · have b0 : decide (sz ≤ 6) = true := decide_eq_true h0
    have HV := Lib.hid (show V = false by rw [← hV]; simp [inB_no (a := 7) (b := 223) (n := sz) (by omega)])
    clear hV
    go_enter Tryz.func190, Tryz.ntmps190
    go_wp2_with (go_at_call 131; refine (from0_any _ _ _).mono ?_; (first | rw [c0] | rw [c1] | rw [c2] | rw [c3]); rintro e w' ⟨rfl, rfl⟩)
    go_ret
    exact ⟨by rw [HV.out]; rfl, (Below.refl _ _).alloc (Nat.le_refl _) _⟩
  have b0 : decide (sz ≤ 6) = false := decide_eq_false h0
  by_cases h1 : 223 < sz
  · have b1 : decide (223 < sz) = true := decide_eq_true h1
    have HV := Lib.hid (show V = false by rw [← hV]; simp [inB_no (a := 7) (b := 223) (n := sz) (by omega)])
    clear hV
    go_enter Tryz.func190, Tryz.ntmps190
    go_wp2_with (go_at_call 131; refine (from0_any _ _ _).mono ?_; (first | rw [c0] | rw [c1] | rw [c2] | rw [c3]); rintro e w' ⟨rfl, rfl⟩)
    go_ret
    exact ⟨by rw [HV.out]; rfl, (Below.refl _ _).alloc (Nat.le_refl _) _⟩
  have b1 : decide (223 < sz) = false := decide_eq_false h1
  by_cases h2 : nx < 1
  · have b2 : decide (nx < 1) = true := decide_eq_true h2
    have HV := Lib.hid (show V = false by rw [← hV]; simp [inB_no (a := 1) (b := 31) (n := nx) (by omega)])
    clear hV
    go_enter Tryz.func190, Tryz.ntmps190
    go_wp2_with (go_at_call 131; refine (from0_any _ _ _).mono ?_; (first | rw [c0] | rw [c1] | rw [c2] | rw [c3]); rintro e w' ⟨rfl, rfl⟩)
    go_ret
    exact ⟨by rw [HV.out]; rfl, (Below.refl _ _).alloc (Nat.le_refl _) _⟩
  have b2 : decide (nx < 1) = false := decide_eq_false h2
  by_cases h3 : 31 < nx
  · have b3 : decide (31 < nx) = true := decide_eq_true h3
    have HV := Lib.hid (show V = false by rw [← hV]; simp [inB_no (a := 1) (b := 31) (n := nx) (by omega)])
    clear hV
    go_enter Tryz.func190, Tryz.ntmps190
    go_wp2_with (go_at_call 131; refine (from0_any _ _ _).mono ?_; (first | rw [c0] | rw [c1] | rw [c2] | rw [c3]); rintro e w' ⟨rfl, rfl⟩)
    go_ret
    exact ⟨by rw [HV.out]; rfl, (Below.refl _ _).alloc (Nat.le_refl _) _⟩
  have b3 : decide (31 < nx) = false := decide_eq_false h3
  have y0 : inB 7 223 sz = true := inB_yes (by omega) (by omega)
  have y1 : inB 1 31 nx = true := inB_yes (by omega) (by omega)
  obtain ⟨q1, e1⟩ : ∃ q, nx - 1 = q := ⟨_, rfl⟩
  obtain ⟨q2, e2⟩ : ∃ q, 7 * q1 = q := ⟨_, rfl⟩
  obtain ⟨q3, e3⟩ : ∃ q, 6 + q2 = q := ⟨_, rfl⟩
  have z1 : IntKind.i64.wrap (nx - 1) = q1 := (IntWalk.i64_in _ (by omega)).trans e1
  have z2 : IntKind.i64.wrap (7 * q1) = q2 := (IntWalk.i64_in _ (by omega)).trans e2
  have z3 : IntKind.i64.wrap (6 + q2) = q3 := (IntWalk.i64_in _ (by omega)).trans e3
  rw [e1, e2, e3] at hV
  by_cases h4 : (dt.size : Int) = q3
  · have b4 : ((dt.size : Int) == q3) = true := by simpa using h4
    have HV := Lib.hid (show V = decide ((dt.size : Int) < sz) by rw [← hV]; simp [c0, c1, c2, c3, y0, y1, b4])
    rcases b5 : decide ((dt.size : Int) < sz)
    · rw [b5] at HV
      clear hV h0 h1 h2 h3 e1 e2 e3 h4 k3 k4 y0 y1
      go_enter Tryz.func190, Tryz.ntmps190
      go_wp2_with (go_at_call 131; refine (from0_any _ _ _).mono ?_; (first | rw [c0] | rw [c1] | rw [c2] | rw [c3]); rintro e w' ⟨rfl, rfl⟩)
      go_ret
      exact ⟨by rw [HV.out]; rfl, (Below.refl _ _).alloc (Nat.le_refl _) _⟩
    · rw [b5] at HV
      clear hV h0 h1 h2 h3 e1 e2 e3 h4 k3 k4 y0 y1
      go_enter Tryz.func190, Tryz.ntmps190
      go_wp2_with (go_at_call 131; refine (from0_any _ _ _).mono ?_; (first | rw [c0] | rw [c1] | rw [c2] | rw [c3]); rintro e w' ⟨rfl, rfl⟩)
      go_ret
      exact ⟨by rw [HV.out]; rfl, (Below.refl _ _).alloc (Nat.le_refl _) _⟩
  · have b4 : ((dt.size : Int) == q3) = false := by simpa using h4
    have HV := Lib.hid (show V = false by rw [← hV]; simp [b4])
    clear hV h0 h1 h2 h3 e1 e2 e3 h4 k3 k4 y0 y1
    go_enter Tryz.func190, Tryz.ntmps190
    go_wp2_with (go_at_call 131; refine (from0_any _ _ _).mono ?_; (first | rw [c0] | rw [c1] | rw [c2] | rw [c3]); rintro e w' ⟨rfl, rfl⟩)
    go_ret
    exact ⟨by rw [HV.out]; rfl, (Below.refl _ _).alloc (Nat.le_refl _) _⟩
end Go.Proofs.YtioldepgoodipaaGreat
