/- A drawn Field: what the draw leaves. Nothing that was there is written, but the source. -/
import Derived.Test.YtigenkcamhenaaaAnyOps
import Derived.Test.YtigenkcamhenaaaDrawMore
import Derived.Test.YtigenkcamhenaaaBitsLow
namespace Go.Proofs.Ytigenkcamhenaaa
open Go.RowKit
set_option linter.unusedVariables false

theorem Known.get {ops : Array Oper} {T : Nat → World → Value → Prop} {a0 : Act} {o : Oper} {a : Act} {w : World} (hK : Known ops T a0 o a w) (k s : Nat) {oj : Oper} (he : o.after.any (fun e => e.on == k && Region.binds .any e) = true) (hoj : ops[k]? = some oj) (hd : oj.dst = some s)
    (hs : Nat.ble (s + 1) a0.tmps.size = true) : T k w (a.eval (.tmp s)) := by
  obtain ⟨e, he1, he2⟩ := Array.any_eq_true'.1 he
  simp only [Bool.and_eq_true] at he2
  have hk : e.on = k := by simpa using he2.1
  subst hk
  exact hK.dep e he1 he2.2 oj s hoj hd (Nat.le_of_ble_eq_true hs)
def I64P (x : Int) : Prop := -9000000000 ≤ x ∧ x ≤ 9000000000
/-- A row that holds a Field. -/
def FdRow (w : World) (k : Nat) : Prop := ∃ (x y : Int) (g : Bool), w.heap[k]? = some (.cells #[.int .i64 x, .int .i64 y, .bool g] 67 (0, 0)) ∧ I64P x ∧ I64P y
theorem FdRow.no : ∀ w k, FdRow w k → ∀ row, w.heap[k]? ≠ some (.cells row 2 (0, 0)) := by
  rintro w k ⟨x, y, g, h, _⟩ row h2
  rw [h] at h2
  have := Option.some.inj h2
  simp at this
theorem FdRow.kept {S : Nat} {w w' : World} {k : Nat} (hR : RStep S FdRow w w') (hk : k < w.heap.size) (hne : k ≠ S) (h : FdRow w k) : FdRow w' k := by
  rcases hR.2 k hk hne with q | ⟨_, q⟩
  · unfold FdRow at *
    rw [q]
    exact h
  · exact q
/-- What holds of the world in the midst of the region. -/
structure CF (w : World) (S : Nat) (a : Option Addr) (len cap : Nat) (zs : List Int) (u : World) (W : World) : Prop where
  dr : Dr w S a len cap zs W
  grown : u.grownBy W (some S)
  out : FdRow W u.heap.size
  lt : u.heap.size < W.heap.size
  ne : u.heap.size ≠ S
  lo : w.heap.size ≤ u.heap.size
/-- Three cells of a row of the draw's own written. -/
def set3 (W : World) (B : Nat) (x y : Int) (g : Bool) : World := ((W.setCell ⟨B, 0, none⟩ (.int .i64 x)).setCell ⟨B, 1, none⟩ (.int .i64 y)).setCell ⟨B, 2, none⟩ (.bool g)
theorem set_other (W : World) {B k : Nat} (h : k ≠ B) (o : Nat) (v : Value) : (W.setCell ⟨B, o, none⟩ v).heap[k]? = W.heap[k]? := heap_setCell_other W ⟨B, o, none⟩ k v (fun e => h (by simp [e]))
theorem set3_other (W : World) {B k : Nat} (h : k ≠ B) (x y : Int) (g : Bool) : (set3 W B x y g).heap[k]? = W.heap[k]? := by
  unfold set3
  rw [set_other _ h, set_other _ h, set_other _ h]
theorem set3_size (W : World) (B : Nat) (x y : Int) (g : Bool) : (set3 W B x y g).heap.size = W.heap.size := by simp [set3]
theorem CF.set3 {w : World} {S : Nat} {a : Option Addr} {len cap : Nat} {zs : List Int} {u W : World} (h : CF w S a len cap zs u W) {B : Nat} (hB : B ≠ S) (hu : u.heap.size < B) (hl : B < W.heap.size) (x y : Int) (g : Bool) : CF w S a len cap zs u (set3 W B x y g) := by
  have hw : w.heap.size ≤ B := by have := h.lo; omega
  refine ⟨((h.dr.set (p := ⟨B, 0, none⟩) hB hw _).set (p := ⟨B, 1, none⟩) hB hw _).set (p := ⟨B, 2, none⟩) hB hw _, ?_, ?_, by rw [set3_size]; exact h.lt, h.ne, h.lo⟩
  · exact ⟨h.grown.os, h.grown.tape, h.grown.output, by rw [set3_size]; exact h.grown.size, fun k hk hne => (set3_other W (by omega) x y g).trans (h.grown.block k hk hne)⟩
  · unfold FdRow
    rw [set3_other W (by omega)]
    exact h.out
theorem RStep.set3 {S : Nat} {W : World} {B : Nat} (hB : B ≠ S) {x y : Int} {g : Bool} (h1 : FdRow W B) (h2 : FdRow (set3 W B x y g) B) : RStep S FdRow W (set3 W B x y g) := by
  refine ⟨Nat.le_of_eq (set3_size W B x y g).symm, fun k hk hne => ?_⟩
  by_cases h : k = B
  · subst h; exact .inr ⟨h1, h2⟩
  · exact .inl (set3_other W h x y g)
/-- What is said of the world at the end of a draw that began in u. -/
structure Fin3 (w : World) (S : Nat) (a : Option Addr) (len cap : Nat) (zs : List Int) (u : World) (W : World) : Prop where
  dr : Dr w S a len cap zs W
  grown : u.grownBy W (some S)
  lo : w.heap.size ≤ u.heap.size
theorem Fin3.set {w : World} {S : Nat} {a : Option Addr} {len cap : Nat} {zs : List Int} {u W : World} (h : Fin3 w S a len cap zs u W) {p : Addr} (hS : p.block ≠ S) (hu : u.heap.size ≤ p.block) (v : Value) : Fin3 w S a len cap zs u (W.setCell p v) := by
  refine ⟨h.dr.set hS (Nat.le_trans h.lo hu) v, ⟨h.grown.os, h.grown.tape, h.grown.output, by have := h.grown.size; simpa [World.setCell] using this, fun k hk hne => ?_⟩, h.lo⟩
  rw [heap_setCell_other W p k v (fun e => by omega)]
  exact h.grown.block k hk hne
theorem CF.fin {w : World} {S : Nat} {a : Option Addr} {len cap : Nat} {zs : List Int} {u W : World} (h : CF w S a len cap zs u W) : Fin3 w S a len cap zs u W := ⟨h.dr, h.grown, h.lo⟩
theorem CF.on {w : World} {S : Nat} {a : Option Addr} {len cap : Nat} {zs : List Int} {u W W' : World} (h : CF w S a len cap zs u W) (hd : Dr w S a len cap zs W') (hg : W.grownBy W' (some S)) : CF w S a len cap zs u W' :=
  ⟨hd, grownBy_trans h.grown hg, h.out.kept (RStep.grown hg) h.lt h.ne, Nat.lt_of_lt_of_le h.lt hg.size, h.ne, h.lo⟩
def TF (u : World) (S : Nat) : Nat → World → Value → Prop
  | 1, _, v => IsI v
  | 3, _, v => ∃ x : Int, v = .int .i64 x ∧ 0 ≤ x ∧ x ≤ 40
  | 4, _, v => ∃ x : Int, v = .int .i64 x ∧ 0 ≤ x ∧ x ≤ 41
  | 5, w, v => LitAt 2 S 9 0 41 w v
  | 7, _, v => ∃ k : Nat, v = .int .i64 (k : Int) ∧ k < 9
  | 8, w, v => PickAt 2 S 0 41 w v
  | 9, _, v => IsI v
  | 11, _, v => ∃ g, v = .bool g
  | 12, _, v => ∃ (x y : Int) (g : Bool), v = .agg #[.int .i64 x, .int .i64 y, .bool g] ∧ I64P x ∧ I64P y
  | 13, w, v => ∃ B, v = .pointer (some ⟨B, 0, none⟩) ∧ B ≠ S ∧ u.heap.size < B ∧ B < w.heap.size ∧ FdRow w B
  | 14, _, _ => True
  | _, _, v => v = .pointer (some ⟨S, 0, none⟩)
theorem TF.kept {u : World} {S : Nat} : ∀ j w w' v, RStep S FdRow w w' → TF u S j w v → TF u S j w' v
  | 5, _, _, _, hR, h => LitAt.kept FdRow.no hR h
  | 8, _, _, _, hR, h => PickAt.kept FdRow.no hR h
  | 13, _, _, _, hR, ⟨B, e, h1, h2, h3, h4⟩ => ⟨B, e, h1, h2, Nat.lt_of_lt_of_le h3 hR.1, h4.kept hR h3 h1⟩
  | 0, _, _, _, _, h | 1, _, _, _, _, h | 2, _, _, _, _, h | 3, _, _, _, _, h | 4, _, _, _, _, h | 6, _, _, _, _, h | 7, _, _, _, _, h | 9, _, _, _, _, h | 10, _, _, _, _, h | 11, _, _, _, _, h | 12, _, _, _, _, h | 14, _, _, _, _, h => h
  | _ + 15, _, _, _, _, h => h
section
variable {w u u' : World} {S : Nat} {a : Option Addr} {len cap : Nat} {zs : List Int}
/-- A drawn Field. -/
def NextFd (w : World) (S : Nat) (a : Option Addr) (len cap : Nat) (zs : List Int) (u : World) (e : Ending) (u' : World) : Prop :=
  ∃ (x y : Int) (g : Bool), e = .returned (fdV x y g) ∧ I64P x ∧ I64P y ∧ Dr w S a len cap zs u' ∧ u.grownBy u' (some S)
set_option maxRecDepth 100000 in
set_option maxHeartbeats 4000000 in
theorem field_next (h : Dr w S a len cap zs u) : Calls Try.prog 121 #[.pointer (some ⟨S, 0, none⟩)] u (NextFd w S a len cap zs u) := by
  have hS := h.src.lt
  have HD := Lib.hid h
  clear h
  go_enter Try.func121, Try.ntmps121
  go_wp2_with fail
  refine wp_region_anyord (CF w S a len cap zs u) (RStep S FdRow) (TF u S) (by kernel_rfl) (by kernel_rfl) (by kernel_rfl) TF.kept ?_ ?_ ?_
  · exact ⟨(HD.out.alloc _).drew, grownBy_drew (World.grownBy_alloc _ _ _), ⟨0, 0, false, heap_alloc_new u _, by unfold I64P; omega, by unfold I64P; omega⟩, by show u.heap.size < (u.alloc _).heap.size; simp, by omega, HD.out.below.size⟩
  · refine ⟨⟨rfl, fun a1 W hC hK => ?_⟩, ⟨rfl, fun a1 W hC hK => ?_⟩, ⟨rfl, fun a1 W hC hK => ?_⟩, ⟨rfl, fun a1 W hC hK => ?_⟩, ⟨rfl, fun a1 W hC hK => ?_⟩, ⟨rfl, fun a1 W hC hK => ?_⟩, ⟨rfl, fun a1 W hC hK => ?_⟩, ⟨rfl, fun a1 W hC hK => ?_⟩, ⟨rfl, fun a1 W hC hK => ?_⟩, ⟨rfl, fun a1 W hC hK => ?_⟩, ⟨rfl, fun a1 W hC hK => ?_⟩, ⟨rfl, fun a1 W hC hK => ?_⟩, ⟨rfl, fun a1 W hC hK => ?_⟩, ⟨rfl, fun a1 W hC hK => ?_⟩, ⟨rfl, fun a1 W hC hK => ?_⟩, trivial⟩
    · exact ob_move rfl ⟨_, rfl, hC, RStep.refl _ _ _, hK.old 0 (by kernel_rfl)⟩
    · have e1 : a1.eval (.tmp 4) = .pointer (some ⟨S, 0, none⟩) := hK.get 0 4 (by kernel_rfl) rfl rfl rfl
      refine ob_call rfl Try.func81 (by kernel_rfl) (by kernel_rfl) (vals := #[.pointer (some ⟨S, 0, none⟩), .int .i64 40]) (by simp [e1, BigFrame.eval_const]) ?_
      refine (n_next hC.dr 40 (by omega)).mono ?_
      rintro e W' ⟨v, rfl, v0, vm, hd, hg⟩
      exact ⟨_, rfl, _, rfl, hC.on hd hg, RStep.grown hg, ⟨v, rfl, by omega, by omega⟩⟩
    · exact ob_move rfl ⟨_, rfl, hC, RStep.refl _ _ _, hK.old 0 (by kernel_rfl)⟩
    · have e1 : a1.eval (.tmp 6) = .pointer (some ⟨S, 0, none⟩) := hK.get 2 6 (by kernel_rfl) rfl rfl rfl
      refine ob_call rfl Try.func81 (by kernel_rfl) (by kernel_rfl) (vals := #[.pointer (some ⟨S, 0, none⟩), .int .i64 32]) (by simp [e1, BigFrame.eval_const]) ?_
      refine (n_next hC.dr 32 (by omega)).mono ?_
      rintro e W' ⟨v, rfl, v0, vm, hd, hg⟩
      exact ⟨_, rfl, _, rfl, hC.on hd hg, RStep.grown hg, ⟨v, rfl, v0, by omega⟩⟩
    · obtain ⟨x, e1, x0, x1⟩ : ∃ x : Int, a1.eval (.tmp 7) = .int .i64 x ∧ 0 ≤ x ∧ x ≤ 40 := hK.get 3 7 (by kernel_rfl) rfl rfl rfl
      have hw : IntKind.i64.wrap (1 + x) = 1 + x := IntWalk.i64_in _ (by omega)
      simp only [Act.eval, Array.getD_eq_getD_getElem?] at e1
      exact ob_value (v := .int .i64 (1 + x)) (w' := W) (by simp [execOp, go_sem, e1, hw]) ⟨_, rfl, hC, RStep.refl _ _ _, 1 + x, rfl, by omega, by omega⟩
    · obtain ⟨x, e1, x0, x1⟩ : ∃ x : Int, a1.eval (.tmp 8) = .int .i64 x ∧ 0 ≤ x ∧ x ≤ 41 := hK.get 4 8 (by kernel_rfl) rfl rfl rfl
      simp only [Act.eval, Array.getD_eq_getD_getElem?] at e1
      refine ob_value (v := .slice (some ⟨W.heap.size, 0, none⟩) 9 9) (w' := W.alloc (.cells #[.int .i64 1, .int .i64 2, .int .i64 3, .int .i64 4, .int .i64 8, .int .i64 8, .int .i64 16, .int .i64 32, .int .i64 x] 2)) (by simp [execOp, go_sem, e1]) ⟨_, rfl, hC.on (hC.dr.alloc _) (World.grownBy_alloc _ _ _), RStep.grown (World.grownBy_alloc _ _ _), W.heap.size, _, rfl, by have := hC.dr.src.lt; omega, by simp, heap_alloc_new W _, fun k hk => ?_⟩
      match k, hk with
      | 0, _ => exact ⟨1, rfl, by omega, by omega⟩
      | 1, _ => exact ⟨2, rfl, by omega, by omega⟩
      | 2, _ => exact ⟨3, rfl, by omega, by omega⟩
      | 3, _ => exact ⟨4, rfl, by omega, by omega⟩
      | 4, _ => exact ⟨8, rfl, by omega, by omega⟩
      | 5, _ => exact ⟨8, rfl, by omega, by omega⟩
      | 6, _ => exact ⟨16, rfl, by omega, by omega⟩
      | 7, _ => exact ⟨32, rfl, by omega, by omega⟩
      | 8, _ => exact ⟨x, rfl, by omega, by omega⟩
    · exact ob_move rfl ⟨_, rfl, hC, RStep.refl _ _ _, hK.old 0 (by kernel_rfl)⟩
    · have e1 : a1.eval (.tmp 10) = .pointer (some ⟨S, 0, none⟩) := hK.get 6 10 (by kernel_rfl) rfl rfl rfl
      refine ob_call rfl Try.func81 (by kernel_rfl) (by kernel_rfl) (vals := #[.pointer (some ⟨S, 0, none⟩), .int .i64 9]) (by simp [e1, BigFrame.eval_const]) ?_
      refine (n_next hC.dr 9 (by omega)).mono ?_
      rintro e W' ⟨v, rfl, v0, vm, hd, hg⟩
      exact ⟨_, rfl, _, rfl, hC.on hd hg, RStep.grown hg, ⟨v.toNat, by rw [Int.toNat_of_nonneg v0], by omega⟩⟩
    · have h9 : LitAt 2 S 9 0 41 W (a1.eval (.tmp 9)) := hK.get 5 9 (by kernel_rfl) rfl rfl rfl
      obtain ⟨k, e2, hk⟩ : ∃ k : Nat, a1.eval (.tmp 11) = .int .i64 (k : Int) ∧ k < 9 := hK.get 7 11 (by kernel_rfl) rfl rfl rfl
      obtain ⟨G, e1, hp⟩ := h9.pick hk
      have k0 : (0 : Int) ≤ (k : Int) := by omega
      have k1 : (k : Int) < 9 := by omega
      simp only [Act.eval, Array.getD_eq_getD_getElem?] at e1 e2
      exact ob_value (v := .pointer (some ⟨G, k, none⟩)) (w' := W) (by simp [execOp, go_sem, e1, e2, k0, k1]) ⟨_, rfl, hC, RStep.refl _ _ _, hp⟩
    · have h12 : PickAt 2 S 0 41 W (a1.eval (.tmp 12)) := hK.get 8 12 (by kernel_rfl) rfl rfl rfl
      obtain ⟨p, x, e1, hc, x0, x1⟩ := h12.cell
      simp only [Act.eval, Array.getD_eq_getD_getElem?] at e1
      exact ob_value (v := .int .i64 x) (w' := W) (by simp [execOp, go_sem, e1, hc]) ⟨_, rfl, hC, RStep.refl _ _ _, x, rfl, by omega, by omega⟩
    · exact ob_move rfl ⟨_, rfl, hC, RStep.refl _ _ _, hK.old 0 (by kernel_rfl)⟩
    · have e1 : a1.eval (.tmp 14) = .pointer (some ⟨S, 0, none⟩) := hK.get 10 14 (by kernel_rfl) rfl rfl rfl
      refine ob_call rfl Try.func80 (by kernel_rfl) (by kernel_rfl) (vals := #[.pointer (some ⟨S, 0, none⟩), .int .i64 2]) (by simp [e1, BigFrame.eval_const]) ?_
      refine (one_next hC.dr 2 (by omega)).mono ?_
      rintro e W' ⟨v, rfl, hd, hg⟩
      exact ⟨_, rfl, _, rfl, hC.on hd hg, RStep.grown hg, ⟨v, rfl⟩⟩
    · obtain ⟨x, e1, x0⟩ : IsI (a1.eval (.tmp 5)) := hK.get 1 5 (by kernel_rfl) rfl rfl rfl
      obtain ⟨y, e2, y0⟩ : IsI (a1.eval (.tmp 13)) := hK.get 9 13 (by kernel_rfl) rfl rfl rfl
      obtain ⟨g, e3⟩ : ∃ g, a1.eval (.tmp 15) = .bool g := hK.get 11 15 (by kernel_rfl) rfl rfl rfl
      simp only [Act.eval, Array.getD_eq_getD_getElem?] at e1 e2 e3
      exact ob_value (v := .agg #[.int .i64 x, .int .i64 y, .bool g]) (w' := W) (by simp [execOp, go_sem, e1, e2, e3]) ⟨_, rfl, hC, RStep.refl _ _ _, x, y, g, rfl, x0, y0⟩
    · exact ob_value (v := .pointer (some ⟨W.heap.size, 0, none⟩)) (w' := W.alloc (.cells #[.int .i64 0, .int .i64 0, .bool false] 67)) (by simp [execOp, go_sem]) ⟨_, rfl, hC.on (hC.dr.alloc _) (World.grownBy_alloc _ _ _), RStep.grown (World.grownBy_alloc _ _ _), W.heap.size, rfl, by have := hC.dr.src.lt; omega, hC.lt, by simp, 0, 0, false, heap_alloc_new W _, by unfold I64P; omega, by unfold I64P; omega⟩
    · obtain ⟨B, e1, hBS, huB, hBl, x', y', g', hB, _⟩ : ∃ B, a1.eval (.tmp 3) = .pointer (some ⟨B, 0, none⟩) ∧ B ≠ S ∧ u.heap.size < B ∧ B < W.heap.size ∧ FdRow W B := hK.get 13 3 (by kernel_rfl) rfl rfl rfl
      obtain ⟨x, y, g, e2, x0, y0⟩ : ∃ (x y : Int) (g : Bool), a1.eval (.tmp 16) = .agg #[.int .i64 x, .int .i64 y, .bool g] ∧ I64P x ∧ I64P y := hK.get 12 16 (by kernel_rfl) rfl rfl rfl
      obtain ⟨c0, c1, c2⟩ := fdCells hB
      have f0 := frozen_of_row W B 0 _ _ hB
      have f1 := frozen_of_row W B 1 _ _ hB
      have f2 := frozen_of_row W B 2 _ _ hB
      have hB' : (((W.setCell ⟨B, 0, none⟩ (.int .i64 x)).setCell ⟨B, 1, none⟩ (.int .i64 y)).setCell ⟨B, 2, none⟩ (.bool g)).heap[B]? = some (.cells #[.int .i64 x, .int .i64 y, .bool g] 67 (0, 0)) := by
        rw [heap_setCell_same _ B 2 _ _ (.bool g) (heap_setCell_same _ B 1 _ _ (.int .i64 y) (heap_setCell_same W B 0 _ _ (.int .i64 x) hB))]
        rfl
      have e9 := e1
      simp only [Act.eval, Array.getD_eq_getD_getElem?] at e1 e2
      refine ob_skip (w' := ((W.setCell ⟨B, 0, none⟩ (.int .i64 x)).setCell ⟨B, 1, none⟩ (.int .i64 y)).setCell ⟨B, 2, none⟩ (.bool g)) (by simp [execOp, go_sem, e1, e2, c0, c1, c2, f0, f1, f2]) ⟨undef, rfl, ?_, ?_, trivial⟩
      · exact hC.set3 hBS huB hBl x y g
      · exact RStep.set3 hBS ⟨_, _, _, hB, ‹_›⟩ ⟨_, _, _, hB', x0, y0⟩
  · intro vs W hC hT
    obtain ⟨B, eB, hBS, huB, hBl, hB⟩ : ∃ B, vs 13 = .pointer (some ⟨B, 0, none⟩) ∧ B ≠ S ∧ u.heap.size < B ∧ B < W.heap.size ∧ FdRow W B := hT 13 (by decide)
    simp only [fillL, if_true, Act.put, List.setIfInBounds_toArray, List.set_cons_zero, List.set_cons_succ, eB]
    have HC := Lib.hid hC
    clear hC hT eB
    go_wp2_with fail
    refine (one_next HC.out.dr 20 (by omega)).mono ?_
    rintro e W1 ⟨v, rfl, hd1, hg1⟩
    have C1 := Lib.hid (HC.out.on hd1 hg1)
    have l1 : B < W1.heap.size := Nat.lt_of_lt_of_le hBl hg1.size
    have F1 := Lib.hid (hB.kept (RStep.grown hg1) hBl hBS)
    clear hd1 hg1 hB hBl
    cases v
    · obtain ⟨x, y, g, hF, hx, hy⟩ := F1.out
      obtain ⟨x', y', g', hO, _⟩ := C1.out.out
      obtain ⟨c0, c1, c2⟩ := fdCells hF
      obtain ⟨r0, r1, r2⟩ := fdCells hO
      have b0 := frozen_of_row W1 B 0 _ _ hF
      have b1 := frozen_of_row W1 B 1 _ _ hF
      have f0 := frozen_of_row W1 u.heap.size 0 _ _ hO
      have f1 := frozen_of_row W1 u.heap.size 1 _ _ hO
      have f2 := frozen_of_row W1 u.heap.size 2 _ _ hO
      have hRS := C1.out.ne
      have hBR : B ≠ u.heap.size := by omega
      have hRB : u.heap.size ≠ B := by omega
      have HX := Lib.hid hx
      have HY := Lib.hid hy
      have HFin := Lib.hid C1.out.fin
      clear hF hO hx hy
      go_wp2_with fail
      have fin := ((HFin.out.set (p := ⟨u.heap.size, 0, none⟩) hRS (Nat.le_refl _) (.int .i64 x)).set (p := ⟨u.heap.size, 1, none⟩) hRS (Nat.le_refl _) (.int .i64 y)).set (p := ⟨u.heap.size, 2, none⟩) hRS (Nat.le_refl _) (.bool g)
      exact bodyPost_ret (v := fdV x y g) (by simp [results, Try.results121, go_sem, r0, r1, r2, fdV]) rfl ⟨x, y, g, rfl, HX.out, HY.out, fin.dr, fin.grown⟩
    · go_wp2_with fail
      refine (n_next C1.out.dr 2 (by omega)).mono ?_
      rintro e W2 ⟨v, rfl, v0, vm, hd2, hg2⟩
      have C2 := Lib.hid (C1.out.on hd2 hg2)
      have l2 : B < W2.heap.size := Nat.lt_of_lt_of_le l1 hg2.size
      have F2 := Lib.hid (F1.out.kept (RStep.grown hg2) l1 hBS)
      clear hd2 hg2 C1 F1
      have hv : v = 0 ∨ v = 1 := by omega
      rcases hv with rfl | rfl
      · go_wp2_with fail
        refine (n_next (C2.out.dr.alloc _) 3 (by omega)).mono ?_
        rintro e W3 ⟨j, rfl, j0, jm, hd3, hg3⟩
        have hS2 := C2.out.dr.src.lt
        obtain ⟨z, hz, hm⟩ := pick_cell [-1, 1800, 1801] hS2 hg3 j.toNat (by simp; omega)
        have hz2 : -1 ≤ z ∧ z ≤ 1801 := by simp at hm; omega
        have hgA := grownBy_trans (World.grownBy_alloc W2 _ (some S)) hg3
        have C3 := Lib.hid (C2.out.on hd3 hgA)
        have F3 := Lib.hid (F2.out.kept (RStep.grown hgA) l2 hBS)
        have j1 : j < 3 := by omega
        clear hgA hd3 hg3 hm jm C2 F2
        obtain ⟨x, y, g, hF, hx, hy⟩ := F3.out
        obtain ⟨x', y', g', hO, _⟩ := C3.out.out
        obtain ⟨c0, c1, c2⟩ := fdCells hF
        obtain ⟨r0, r1, r2⟩ := fdCells hO
        have b0 := frozen_of_row W3 B 0 _ _ hF
        have b1 := frozen_of_row W3 B 1 _ _ hF
        have f0 := frozen_of_row W3 u.heap.size 0 _ _ hO
        have f1 := frozen_of_row W3 u.heap.size 1 _ _ hO
        have f2 := frozen_of_row W3 u.heap.size 2 _ _ hO
        have hRS := C3.out.ne
        have hBR : B ≠ u.heap.size := by omega
        have hRB : u.heap.size ≠ B := by omega
        have HX := Lib.hid hx
        have HY := Lib.hid hy
        have HFin := Lib.hid C3.out.fin
        clear hF hO hx hy
        go_wp2_with fail
        have fin := (((HFin.out.set (p := ⟨B, 0, none⟩) hBS (by show u.heap.size ≤ B; omega) (.int .i64 z)).set (p := ⟨u.heap.size, 0, none⟩) hRS (Nat.le_refl _) (.int .i64 z)).set (p := ⟨u.heap.size, 1, none⟩) hRS (Nat.le_refl _) (.int .i64 y)).set (p := ⟨u.heap.size, 2, none⟩) hRS (Nat.le_refl _) (.bool g)
        exact bodyPost_ret (v := fdV z y g) (by simp [results, Try.results121, go_sem, r0, r1, r2, fdV]) rfl ⟨z, y, g, rfl, ⟨by omega, by omega⟩, HY.out, fin.dr, fin.grown⟩
      · go_wp2_with fail
        refine (n_next (C2.out.dr.alloc _) 3 (by omega)).mono ?_
        rintro e W3 ⟨j, rfl, j0, jm, hd3, hg3⟩
        have hS2 := C2.out.dr.src.lt
        obtain ⟨z, hz, hm⟩ := pick_cell [0, 32, 33] hS2 hg3 j.toNat (by simp; omega)
        have hz2 : -1 ≤ z ∧ z ≤ 1801 := by simp at hm; omega
        have hgA := grownBy_trans (World.grownBy_alloc W2 _ (some S)) hg3
        have C3 := Lib.hid (C2.out.on hd3 hgA)
        have F3 := Lib.hid (F2.out.kept (RStep.grown hgA) l2 hBS)
        have j1 : j < 3 := by omega
        clear hgA hd3 hg3 hm jm C2 F2
        obtain ⟨x, y, g, hF, hx, hy⟩ := F3.out
        obtain ⟨x', y', g', hO, _⟩ := C3.out.out
        obtain ⟨c0, c1, c2⟩ := fdCells hF
        obtain ⟨r0, r1, r2⟩ := fdCells hO
        have b0 := frozen_of_row W3 B 0 _ _ hF
        have b1 := frozen_of_row W3 B 1 _ _ hF
        have f0 := frozen_of_row W3 u.heap.size 0 _ _ hO
        have f1 := frozen_of_row W3 u.heap.size 1 _ _ hO
        have f2 := frozen_of_row W3 u.heap.size 2 _ _ hO
        have hRS := C3.out.ne
        have hBR : B ≠ u.heap.size := by omega
        have hRB : u.heap.size ≠ B := by omega
        have HX := Lib.hid hx
        have HY := Lib.hid hy
        have HFin := Lib.hid C3.out.fin
        clear hF hO hx hy
        go_wp2_with fail
        have fin := (((HFin.out.set (p := ⟨B, 1, none⟩) hBS (by show u.heap.size ≤ B; omega) (.int .i64 z)).set (p := ⟨u.heap.size, 0, none⟩) hRS (Nat.le_refl _) (.int .i64 x)).set (p := ⟨u.heap.size, 1, none⟩) hRS (Nat.le_refl _) (.int .i64 z)).set (p := ⟨u.heap.size, 2, none⟩) hRS (Nat.le_refl _) (.bool g)
        exact bodyPost_ret (v := fdV x z g) (by simp [results, Try.results121, go_sem, r0, r1, r2, fdV]) rfl ⟨x, z, g, rfl, HX.out, ⟨by omega, by omega⟩, fin.dr, fin.grown⟩
end
end Go.Proofs.Ytigenkcamhenaaa
