/- The drawn arguments of the laws on bits. Nothing that was there is written. -/
import Derived.Test.YtigenkcamhenaaaDrawValue
import Derived.Test.YtigenkcamhenaaaConv
namespace Go.Proofs.Ytigenkcamhenaaa
open Go.RowKit
set_option linter.unusedVariables false

/-- A row that holds a Value. -/
def VlRow (w : World) (k : Nat) : Prop := ∃ (x y : Int), w.heap[k]? = some (.cells #[.int .i64 x, .int .i64 y] 69 (0, 0)) ∧ I64P x ∧ I64P y
/-- What a region leaves that writes block S, and besides rows of Fields and Values. -/
def RV (S : Nat) (w w' : World) : Prop := w.heap.size ≤ w'.heap.size ∧ ∀ k, k < w.heap.size → k ≠ S → w'.heap[k]? = w.heap[k]? ∨ (FdRow w k ∧ FdRow w' k) ∨ (VlRow w k ∧ VlRow w' k)
theorem RV.grown {S : Nat} {w w' : World} (h : w.grownBy w' (some S)) : RV S w w' := ⟨h.size, fun k hk hne => .inl (h.block k hk fun e => hne (by simpa using e))⟩
theorem RV.refl (S : Nat) (w : World) : RV S w w := ⟨Nat.le_refl _, fun _ _ _ => .inl rfl⟩
theorem VlRow.no : ∀ w k, VlRow w k → ∀ row, w.heap[k]? ≠ some (.cells row 2 (0, 0)) := by
  rintro w k ⟨x, y, h, _⟩ row h2
  rw [h] at h2
  have := Option.some.inj h2
  simp at this
theorem FdRow.vl {w : World} {k : Nat} (h : FdRow w k) (h2 : VlRow w k) : False := by
  obtain ⟨x, y, g, h, _⟩ := h
  obtain ⟨x', y', h', _⟩ := h2
  rw [h] at h'
  have := Option.some.inj h'
  simp at this
theorem FdRow.keptV {S : Nat} {w w' : World} {k : Nat} (hR : RV S w w') (hk : k < w.heap.size) (hne : k ≠ S) (h : FdRow w k) : FdRow w' k := by
  rcases hR.2 k hk hne with q | ⟨_, q⟩ | ⟨q, _⟩
  · unfold FdRow at *; rw [q]; exact h
  · exact q
  · exact (h.vl q).elim
theorem VlRow.keptV {S : Nat} {w w' : World} {k : Nat} (hR : RV S w w') (hk : k < w.heap.size) (hne : k ≠ S) (h : VlRow w k) : VlRow w' k := by
  rcases hR.2 k hk hne with q | ⟨q, _⟩ | ⟨_, q⟩
  · unfold VlRow at *; rw [q]; exact h
  · exact (q.vl h).elim
  · exact q
theorem LitAt.keptV {S n : Nat} {lo hi : Int} {w w' : World} {v : Value} (hR : RV S w w') (h : LitAt 2 S n lo hi w v) : LitAt 2 S n lo hi w' v := by
  obtain ⟨G, row, e, h1, h2, h3, h4⟩ := h
  refine ⟨G, row, e, h1, Nat.lt_of_lt_of_le h2 hR.1, ?_, h4⟩
  rcases hR.2 G h2 h1 with q | ⟨q, _⟩ | ⟨q, _⟩
  · rw [q]; exact h3
  · exact absurd h3 (q.no w G row)
  · exact absurd h3 (q.no w G row)
theorem PickAt.keptV {S : Nat} {lo hi : Int} {w w' : World} {v : Value} (hR : RV S w w') (h : PickAt 2 S lo hi w v) : PickAt 2 S lo hi w' v := by
  obtain ⟨G, k, row, x, e, h1, h2, h3, h4⟩ := h
  refine ⟨G, k, row, x, e, h1, Nat.lt_of_lt_of_le h2 hR.1, ?_, h4⟩
  rcases hR.2 G h2 h1 with q | ⟨q, _⟩ | ⟨q, _⟩
  · rw [q]; exact h3
  · exact absurd h3 (q.no w G row)
  · exact absurd h3 (q.no w G row)
/-- What holds of the world in the midst of a draw: the source, and rows of Fields and of Values. -/
structure CB (w : World) (S : Nat) (a : Option Addr) (len cap : Nat) (zs : List Int) (fs vs : List Nat) (W : World) : Prop where
  dr : Dr w S a len cap zs W
  fd : ∀ k ∈ fs, k ≠ S ∧ w.heap.size ≤ k ∧ k < W.heap.size ∧ FdRow W k
  vl : ∀ k ∈ vs, k ≠ S ∧ w.heap.size ≤ k ∧ k < W.heap.size ∧ VlRow W k
section
variable {w u u' : World} {S : Nat} {a : Option Addr} {len cap : Nat} {zs : List Int} {fs vs : List Nat}
theorem CB.on {W W' : World} (h : CB w S a len cap zs fs vs W) (hd : Dr w S a len cap zs W') (hR : RV S W W') : CB w S a len cap zs fs vs W' :=
  ⟨hd, fun k hk => let ⟨h1, h2, h3, h4⟩ := h.fd k hk; ⟨h1, h2, Nat.lt_of_lt_of_le h3 hR.1, h4.keptV hR h3 h1⟩, fun k hk => let ⟨h1, h2, h3, h4⟩ := h.vl k hk; ⟨h1, h2, Nat.lt_of_lt_of_le h3 hR.1, h4.keptV hR h3 h1⟩⟩
theorem CB.go {W W' : World} (h : CB w S a len cap zs fs vs W) (hd : Dr w S a len cap zs W') (hg : W.grownBy W' (some S)) : CB w S a len cap zs fs vs W' := h.on hd (RV.grown hg)
theorem RV.put3 {W : World} {B : Nat} {x y : Int} {g : Bool} (h1 : FdRow W B) (hx : I64P x) (hy : I64P y) : RV S W (set3 W B x y g) ∧ FdRow (set3 W B x y g) B := by
  have h2 : FdRow (set3 W B x y g) B := by
    obtain ⟨x', y', g', hB, _⟩ := h1
    refine ⟨x, y, g, ?_, hx, hy⟩
    unfold Go.Proofs.Ytigenkcamhenaaa.set3
    rw [heap_setCell_same _ B 2 _ _ (.bool g) (heap_setCell_same _ B 1 _ _ (.int .i64 y) (heap_setCell_same W B 0 _ _ (.int .i64 x) hB))]
    rfl
  refine ⟨⟨Nat.le_of_eq (set3_size W B x y g).symm, fun k hk hne => ?_⟩, h2⟩
  by_cases h : k = B
  · subst h; exact .inr (.inl ⟨h1, h2⟩)
  · exact .inl (set3_other W h x y g)
def set2 (W : World) (B : Nat) (x y : Int) : World := (W.setCell ⟨B, 0, none⟩ (.int .i64 x)).setCell ⟨B, 1, none⟩ (.int .i64 y)
theorem RV.put2 {W : World} {B : Nat} {x y : Int} (h1 : VlRow W B) (hx : I64P x) (hy : I64P y) : RV S W (set2 W B x y) := by
  have h2 : VlRow (Go.Proofs.Ytigenkcamhenaaa.set2 W B x y) B := by
    obtain ⟨x', y', hB, _⟩ := h1
    refine ⟨x, y, ?_, hx, hy⟩
    unfold Go.Proofs.Ytigenkcamhenaaa.set2
    rw [heap_setCell_same _ B 1 _ _ (.int .i64 y) (heap_setCell_same W B 0 _ _ (.int .i64 x) hB)]
    rfl
  refine ⟨by simp [Go.Proofs.Ytigenkcamhenaaa.set2], fun k hk hne => ?_⟩
  by_cases h : k = B
  · subst h; exact .inr (.inr ⟨h1, h2⟩)
  · refine .inl ?_
    unfold Go.Proofs.Ytigenkcamhenaaa.set2
    rw [set_other _ h, set_other _ h]
theorem CB.put3 {W : World} (h : CB w S a len cap zs fs vs W) {B : Nat} (hB : B ∈ fs) {x y : Int} {g : Bool} (hx : I64P x) (hy : I64P y) : CB w S a len cap zs fs vs (set3 W B x y g) ∧ RV S W (set3 W B x y g) := by
  obtain ⟨h1, h2, _, h4⟩ := h.fd B hB
  have hR := (RV.put3 (S := S) (x := x) (y := y) (g := g) h4 hx hy).1
  exact ⟨h.on (((h.dr.set (p := ⟨B, 0, none⟩) h1 h2 _).set (p := ⟨B, 1, none⟩) h1 h2 _).set (p := ⟨B, 2, none⟩) h1 h2 _) hR, hR⟩
theorem CB.put2 {W : World} (h : CB w S a len cap zs fs vs W) {B : Nat} (hB : B ∈ vs) {x y : Int} (hx : I64P x) (hy : I64P y) : CB w S a len cap zs fs vs (set2 W B x y) ∧ RV S W (set2 W B x y) := by
  obtain ⟨h1, h2, _, h4⟩ := h.vl B hB
  have hR := RV.put2 (S := S) (x := x) (y := y) h4 hx hy
  exact ⟨h.on ((h.dr.set (p := ⟨B, 0, none⟩) h1 h2 _).set (p := ⟨B, 1, none⟩) h1 h2 _) hR, hR⟩
/-- The same draw, begun ahead of some rows. -/
theorem Dr.base {w' : World} (h : Dr w' S a len cap zs u) (hb : Below w.heap.size w w') (ha : 0 < len → ∀ b o, a = some ⟨b, o, none⟩ → b < w.heap.size) : Dr w S a len cap zs u :=
  ⟨h.src, h.row, hb.trans (h.below.mono hb.size), Nat.le_trans hb.size h.lo, ha, h.few⟩
set_option maxHeartbeats 1000000 in
/-- A drawn text of 4 to 12 bytes. -/
theorem text_next (h : Dr w S a len cap zs u) : Calls Try.prog 120 #[.pointer (some ⟨S, 0, none⟩)] u fun e u' => ∃ l : List UInt8, l.length ≤ 12 ∧ e = .returned (.string ⟨l.toArray⟩) ∧ Dr w S a len cap zs u' ∧ u.grownBy u' (some S) := by
  go_enter Try.func120, Try.ntmps120
  go_wp2_with fail
  refine (n_next h 9 (by omega)).mono ?_
  rintro e u1 ⟨v, rfl, v0, vm, hd, hg⟩
  go_wp2_with fail
  refine (bytes_next hd _ (by omega) (by omega)).mono ?_
  rintro e u2 ⟨l, hl, rfl, hd2, hg2⟩
  go_wp2_with fail
  go_ret
  exact ⟨l, by omega, rfl, hd2, grownBy_trans hg hg2⟩

def TG (S V : Nat) (s : Value) : Nat → World → Value → Prop
  | 0, _, v => v = s
  | 1, _, v => v = .pointer (some ⟨V, 0, none⟩)
  | 3, _, v => v = .pointer (some ⟨V, 1, none⟩)
  | 5, _, v => v = s
  | _, _, v => ∃ x : Int, v = .int .i64 x ∧ I64P x
theorem TG.kept {S V : Nat} {s : Value} : ∀ j w w' v, RV S w w' → TG S V s j w v → TG S V s j w' v
  | 0, _, _, _, _, h | 1, _, _, _, _, h | 2, _, _, _, _, h | 3, _, _, _, _, h | 4, _, _, _, _, h | 5, _, _, _, _, h => h
  | _ + 6, _, _, _, _, h => h
set_option maxRecDepth 100000 in
set_option maxHeartbeats 8000000 in
theorem drawGetBits_any (hr : RowIn w a len zs) (hlen : len ≤ 1048576) (hba : 0 < len → ∀ b o, a = some ⟨b, o, none⟩ → b < w.heap.size) :
    Calls Try.prog 47 #[.slice a len cap] w fun e w' => ∃ (l : List UInt8) (x y : Int), l.length ≤ 12 ∧ I64P x ∧ I64P y ∧ e = .returned (.tuple #[.string ⟨l.toArray⟩, .int .i64 x, .int .i64 y]) ∧ Below w.heap.size w w' := by
  obtain ⟨S, eS⟩ : ∃ S, w.heap.size = S := ⟨_, rfl⟩
  go_enter Try.func47, Try.ntmps47
  go_wp2_with fail
  refine (source_next (cap := cap) hr hlen hba).mono ?_
  rintro e u0 ⟨rfl, h0⟩
  rw [eS] at h0 ⊢
  go_wp2_with fail
  refine (text_next h0).mono ?_
  rintro e u1 ⟨l, hl, rfl, h1, g1⟩
  go_wp2_with fail
  refine (field_next h1).mono ?_
  rintro e u2 ⟨x, y, g, rfl, hx, hy, h2, g2⟩
  unfold fdV
  have hS2 := h2.src.lt
  have HC0 := Lib.hid (show CB w S a len cap zs [u2.heap.size] [] (u2.alloc (.cells #[.int .i64 x, .int .i64 y, .bool g] 67)) from ⟨h2.alloc _, fun k hk => by
    have e : k = u2.heap.size := by simpa using hk
    subst e
    exact ⟨by omega, h2.below.size, by simp, x, y, g, heap_alloc_new u2 _, hx, hy⟩, fun k hk => by cases hk⟩)
  go_wp2_with fail
  obtain ⟨U, eU⟩ : ∃ U, u2.alloc (.cells #[.int .i64 x, .int .i64 y, .bool g] 67) = U := ⟨_, rfl⟩
  obtain ⟨V, eV⟩ : ∃ V, u2.heap.size = V := ⟨_, rfl⟩
  rw [eU, eV] at HC0
  rw [eU, eV]
  clear eU eV h1 h2 g1 g2 h0 hx hy hS2
  refine wp_region_anyord (CB w S a len cap zs [V] []) (RV S) (TG S V (.string ⟨l.toArray⟩)) (by kernel_rfl) (by kernel_rfl) (by kernel_rfl) TG.kept ?_ ?_ ?_
  · exact ⟨HC0.out.dr.drew, HC0.out.fd, HC0.out.vl⟩
  · refine ⟨⟨rfl, fun a1 W hC hK => ?_⟩, ⟨rfl, fun a1 W hC hK => ?_⟩, ⟨rfl, fun a1 W hC hK => ?_⟩, ⟨rfl, fun a1 W hC hK => ?_⟩, ⟨rfl, fun a1 W hC hK => ?_⟩, ⟨rfl, fun a1 W hC hK => ?_⟩, ⟨rfl, fun a1 W hC hK => ?_⟩, ⟨rfl, fun a1 W hC hK => ?_⟩, trivial⟩
    · exact ob_move rfl ⟨_, rfl, hC, RV.refl _ _, (hK.old 6 (by kernel_rfl)).trans rfl⟩
    · have e1 : a1.eval (.tmp 7) = .pointer (some ⟨V, 0, none⟩) := (hK.old 7 (by kernel_rfl)).trans rfl
      have hl := hC.fd V (by simp)
      obtain ⟨_, _, hlt, x, y, g, hV, _⟩ := hl
      obtain ⟨c0, c1, c2⟩ := fdCells hV
      simp only [Act.eval, Array.getD_eq_getD_getElem?] at e1
      exact ob_value (v := .pointer (some ⟨V, 0, none⟩)) (w' := W) (by simp [execOp, go_sem, e1]) ⟨_, rfl, hC, RV.refl _ _, rfl⟩
    · have e1 : a1.eval (.tmp 15) = .pointer (some ⟨V, 0, none⟩) := hK.get 1 15 (by kernel_rfl) rfl rfl rfl
      obtain ⟨_, _, _, x, y, g, hV, hx, hy⟩ := hC.fd V (by simp)
      obtain ⟨c0, c1, c2⟩ := fdCells hV
      simp only [Act.eval, Array.getD_eq_getD_getElem?] at e1
      exact ob_value (v := .int .i64 x) (w' := W) (by simp [execOp, go_sem, e1, c0]) ⟨_, rfl, hC, RV.refl _ _, _, rfl, hx⟩
    · have e1 : a1.eval (.tmp 7) = .pointer (some ⟨V, 0, none⟩) := (hK.old 7 (by kernel_rfl)).trans rfl
      have hl := hC.fd V (by simp)
      obtain ⟨_, _, hlt, x, y, g, hV, _⟩ := hl
      obtain ⟨c0, c1, c2⟩ := fdCells hV
      simp only [Act.eval, Array.getD_eq_getD_getElem?] at e1
      exact ob_value (v := .pointer (some ⟨V, 1, none⟩)) (w' := W) (by simp [execOp, go_sem, e1]) ⟨_, rfl, hC, RV.refl _ _, rfl⟩
    · have e1 : a1.eval (.tmp 17) = .pointer (some ⟨V, 1, none⟩) := hK.get 3 17 (by kernel_rfl) rfl rfl rfl
      obtain ⟨_, _, _, x, y, g, hV, hx, hy⟩ := hC.fd V (by simp)
      obtain ⟨c0, c1, c2⟩ := fdCells hV
      simp only [Act.eval, Array.getD_eq_getD_getElem?] at e1
      exact ob_value (v := .int .i64 y) (w' := W) (by simp [execOp, go_sem, e1, c1]) ⟨_, rfl, hC, RV.refl _ _, _, rfl, hy⟩
    · exact ob_value (BigFrame.run_assign _ rfl W) ⟨_, rfl, hC, RV.refl _ _, hK.get 0 14 (by kernel_rfl) rfl rfl rfl⟩
    · exact ob_value (BigFrame.run_assign _ rfl W) ⟨_, rfl, hC, RV.refl _ _, hK.get 2 16 (by kernel_rfl) rfl rfl rfl⟩
    · exact ob_value (BigFrame.run_assign _ rfl W) ⟨_, rfl, hC, RV.refl _ _, hK.get 4 18 (by kernel_rfl) rfl rfl rfl⟩
  · intro vs W hC hT
    have e5 : vs 5 = .string ⟨l.toArray⟩ := hT 5 (by decide)
    obtain ⟨x2, e6, hx2⟩ : ∃ x : Int, vs 6 = .int .i64 x ∧ I64P x := hT 6 (by decide)
    obtain ⟨y2, e7, hy2⟩ : ∃ x : Int, vs 7 = .int .i64 x ∧ I64P x := hT 7 (by decide)
    simp only [fillL, if_true, Act.put, List.setIfInBounds_toArray, List.set_cons_zero, List.set_cons_succ, e5, e6, e7]
    have HB := Lib.hid hC.dr.below
    clear hC hT e5 e6 e7
    go_wp2_with fail
    exact bodyPost_ret (v := .tuple #[.string ⟨l.toArray⟩, .int .i64 x2, .int .i64 y2]) (by simp [results, Try.results47, go_sem]) rfl ⟨l, x2, y2, hl, hx2, hy2, rfl, HB.out⟩
theorem l01Min_bits (a b : Int) (w : World) :
    Calls Try.prog 123 #[.int .i64 a, .int .i64 b] w fun e w' => ∃ m : Int, e = .returned (.int .i64 m) ∧ (m = a ∨ m = b) ∧ m ≤ a ∧ m ≤ b ∧ w = w' := by
  by_cases h : a < b
  · have hd : decide (a < b) = true := decide_eq_true h
    go_enter Try.func123, Try.ntmps123
    go_wp2
    go_ret
    exact ⟨a, rfl, .inl rfl, by omega, by omega, rfl⟩
  · have hd : decide (a < b) = false := decide_eq_false h
    go_enter Try.func123, Try.ntmps123
    go_wp2
    go_ret
    exact ⟨b, rfl, .inr rfl, by omega, by omega, rfl⟩
def TPA (S V : Nat) (s : Value) : Nat → World → Value → Prop
  | 0, _, v => v = s
  | 1, _, v => v = .pointer (some ⟨V, 0, none⟩)
  | 3, _, v => v = .pointer (some ⟨V, 1, none⟩)
  | 5, w, v => LitAt 2 S 3 (-1) 4294967296 w v
  | 6, _, v => v = .pointer (some ⟨S, 0, none⟩)
  | 7, _, v => ∃ k : Nat, v = .int .i64 (k : Int) ∧ k < 3
  | 8, w, v => PickAt 2 S (-1) 4294967296 w v
  | 10, _, v => v = s
  | _, _, v => ∃ x : Int, v = .int .i64 x ∧ I64P x
theorem TPA.kept {S V : Nat} {s : Value} : ∀ j w w' v, RV S w w' → TPA S V s j w v → TPA S V s j w' v
  | 5, _, _, _, hR, h => LitAt.keptV hR h
  | 8, _, _, _, hR, h => PickAt.keptV hR h
  | 0, _, _, _, _, h | 1, _, _, _, _, h | 2, _, _, _, _, h | 3, _, _, _, _, h | 4, _, _, _, _, h | 6, _, _, _, _, h | 7, _, _, _, _, h | 9, _, _, _, _, h | 10, _, _, _, _, h | 11, _, _, _, _, h | 12, _, _, _, _, h | 13, _, _, _, _, h => h
  | _ + 14, _, _, _, _, h => h
def TPB (S V : Nat) (s : Value) : Nat → World → Value → Prop
  | 0, _, v => v = s
  | 1, _, v => v = .pointer (some ⟨V, 0, none⟩)
  | 3, _, v => v = .pointer (some ⟨V, 1, none⟩)
  | 5, _, v => v = .pointer (some ⟨S, 0, none⟩)
  | 6, _, v => v = .pointer (some ⟨V, 1, none⟩)
  | 8, _, v => ∃ m : Int, v = .int .i64 m ∧ 1 ≤ m ∧ m ≤ 9223372036854775807
  | 9, _, v => ∃ m : Int, v = .int .i64 m ∧ 1 ≤ m ∧ m ≤ 32
  | 10, _, v => ∃ m : Int, v = .int .i64 m ∧ 1 ≤ m ∧ m ≤ 4294967296
  | 12, _, v => v = s
  | _, _, v => ∃ x : Int, v = .int .i64 x ∧ I64P x
theorem TPB.kept {S V : Nat} {s : Value} : ∀ j w w' v, RV S w w' → TPB S V s j w v → TPB S V s j w' v
  | 0, _, _, _, _, h | 1, _, _, _, _, h | 2, _, _, _, _, h | 3, _, _, _, _, h | 4, _, _, _, _, h | 5, _, _, _, _, h | 6, _, _, _, _, h | 7, _, _, _, _, h | 8, _, _, _, _, h | 9, _, _, _, _, h | 10, _, _, _, _, h | 11, _, _, _, _, h | 12, _, _, _, _, h | 13, _, _, _, _, h | 14, _, _, _, _, h | 15, _, _, _, _, h => h
  | _ + 16, _, _, _, _, h => h
set_option maxRecDepth 100000 in
set_option maxHeartbeats 8000000 in
theorem drawPutBits_any (hr : RowIn w a len zs) (hlen : len ≤ 1048576) (hba : 0 < len → ∀ b o, a = some ⟨b, o, none⟩ → b < w.heap.size) :
    Calls Try.prog 45 #[.slice a len cap] w fun e w' => ∃ (l : List UInt8) (x y n : Int), l.length ≤ 12 ∧ I64P x ∧ I64P y ∧ I64P n ∧ e = .returned (.tuple #[.string ⟨l.toArray⟩, .int .i64 x, .int .i64 y, .int .i64 n]) ∧ Below w.heap.size w w' := by
  obtain ⟨S, eS⟩ : ∃ S, w.heap.size = S := ⟨_, rfl⟩
  go_enter Try.func45, Try.ntmps45
  go_wp2_with fail
  refine (source_next (cap := cap) hr hlen hba).mono ?_
  rintro e u0 ⟨rfl, h0⟩
  rw [eS] at h0 ⊢
  go_wp2_with fail
  refine (text_next h0).mono ?_
  rintro e u1 ⟨l, hl, rfl, h1, g1⟩
  go_wp2_with fail
  refine (field_next h1).mono ?_
  rintro e u2 ⟨x, y, g, rfl, hx, hy, h2, g2⟩
  unfold fdV
  have hS2 := h2.src.lt
  have HC0 := Lib.hid (show CB w S a len cap zs [u2.heap.size] [] (u2.alloc (.cells #[.int .i64 x, .int .i64 y, .bool g] 67)) from ⟨h2.alloc _, fun k hk => by
    have e : k = u2.heap.size := by simpa using hk
    subst e
    exact ⟨by omega, h2.below.size, by simp, x, y, g, heap_alloc_new u2 _, hx, hy⟩, fun k hk => by cases hk⟩)
  go_wp2_with fail
  refine (one_next HC0.out.dr 6 (by omega)).mono ?_
  rintro e U ⟨b, rfl, hd, hg⟩
  have HC := Lib.hid (HC0.out.go hd hg)
  obtain ⟨V, eV⟩ : ∃ V, u2.heap.size = V := ⟨_, rfl⟩
  rw [eV] at HC
  rw [eV]
  clear HC0 eV h1 h2 g1 g2 h0 hx hy hS2 hd hg
  cases b
  · go_wp2_with fail
    refine wp_region_anyord (CB w S a len cap zs [V] []) (RV S) (TPB S V (.string ⟨l.toArray⟩)) (by kernel_rfl) (by kernel_rfl) (by kernel_rfl) TPB.kept ?_ ?_ ?_
    · exact ⟨HC.out.dr.drew, HC.out.fd, HC.out.vl⟩
    · refine ⟨⟨rfl, fun a1 W hC hK => ?_⟩, ⟨rfl, fun a1 W hC hK => ?_⟩, ⟨rfl, fun a1 W hC hK => ?_⟩, ⟨rfl, fun a1 W hC hK => ?_⟩, ⟨rfl, fun a1 W hC hK => ?_⟩, ⟨rfl, fun a1 W hC hK => ?_⟩, ⟨rfl, fun a1 W hC hK => ?_⟩, ⟨rfl, fun a1 W hC hK => ?_⟩, ⟨rfl, fun a1 W hC hK => ?_⟩, ⟨rfl, fun a1 W hC hK => ?_⟩, ⟨rfl, fun a1 W hC hK => ?_⟩, ⟨rfl, fun a1 W hC hK => ?_⟩, ⟨rfl, fun a1 W hC hK => ?_⟩, ⟨rfl, fun a1 W hC hK => ?_⟩, ⟨rfl, fun a1 W hC hK => ?_⟩, ⟨rfl, fun a1 W hC hK => ?_⟩, trivial⟩
      · exact ob_move rfl ⟨_, rfl, hC, RV.refl _ _, (hK.old 7 (by kernel_rfl)).trans rfl⟩
      · have e1 : a1.eval (.tmp 8) = .pointer (some ⟨V, 0, none⟩) := (hK.old 8 (by kernel_rfl)).trans rfl
        have hl := hC.fd V (by simp)
        obtain ⟨_, _, hlt, x, y, g, hV, _⟩ := hl
        obtain ⟨c0, c1, c2⟩ := fdCells hV
        simp only [Act.eval, Array.getD_eq_getD_getElem?] at e1
        exact ob_value (v := .pointer (some ⟨V, 0, none⟩)) (w' := W) (by simp [execOp, go_sem, e1]) ⟨_, rfl, hC, RV.refl _ _, rfl⟩
      · have e1 : a1.eval (.tmp 28) = .pointer (some ⟨V, 0, none⟩) := hK.get 1 28 (by kernel_rfl) rfl rfl rfl
        obtain ⟨_, _, _, x, y, g, hV, hx, hy⟩ := hC.fd V (by simp)
        obtain ⟨c0, c1, c2⟩ := fdCells hV
        simp only [Act.eval, Array.getD_eq_getD_getElem?] at e1
        exact ob_value (v := .int .i64 x) (w' := W) (by simp [execOp, go_sem, e1, c0]) ⟨_, rfl, hC, RV.refl _ _, _, rfl, hx⟩
      · have e1 : a1.eval (.tmp 8) = .pointer (some ⟨V, 0, none⟩) := (hK.old 8 (by kernel_rfl)).trans rfl
        have hl := hC.fd V (by simp)
        obtain ⟨_, _, hlt, x, y, g, hV, _⟩ := hl
        obtain ⟨c0, c1, c2⟩ := fdCells hV
        simp only [Act.eval, Array.getD_eq_getD_getElem?] at e1
        exact ob_value (v := .pointer (some ⟨V, 1, none⟩)) (w' := W) (by simp [execOp, go_sem, e1]) ⟨_, rfl, hC, RV.refl _ _, rfl⟩
      · have e1 : a1.eval (.tmp 30) = .pointer (some ⟨V, 1, none⟩) := hK.get 3 30 (by kernel_rfl) rfl rfl rfl
        obtain ⟨_, _, _, x, y, g, hV, hx, hy⟩ := hC.fd V (by simp)
        obtain ⟨c0, c1, c2⟩ := fdCells hV
        simp only [Act.eval, Array.getD_eq_getD_getElem?] at e1
        exact ob_value (v := .int .i64 y) (w' := W) (by simp [execOp, go_sem, e1, c1]) ⟨_, rfl, hC, RV.refl _ _, _, rfl, hy⟩
      · exact ob_move rfl ⟨_, rfl, hC, RV.refl _ _, (hK.old 6 (by kernel_rfl)).trans rfl⟩
      · have e1 : a1.eval (.tmp 8) = .pointer (some ⟨V, 0, none⟩) := (hK.old 8 (by kernel_rfl)).trans rfl
        have hl := hC.fd V (by simp)
        obtain ⟨_, _, hlt, x, y, g, hV, _⟩ := hl
        obtain ⟨c0, c1, c2⟩ := fdCells hV
        simp only [Act.eval, Array.getD_eq_getD_getElem?] at e1
        exact ob_value (v := .pointer (some ⟨V, 1, none⟩)) (w' := W) (by simp [execOp, go_sem, e1]) ⟨_, rfl, hC, RV.refl _ _, rfl⟩
      · have e1 : a1.eval (.tmp 33) = .pointer (some ⟨V, 1, none⟩) := hK.get 6 33 (by kernel_rfl) rfl rfl rfl
        obtain ⟨_, _, _, x, y, g, hV, hx, hy⟩ := hC.fd V (by simp)
        obtain ⟨c0, c1, c2⟩ := fdCells hV
        simp only [Act.eval, Array.getD_eq_getD_getElem?] at e1
        exact ob_value (v := .int .i64 y) (w' := W) (by simp [execOp, go_sem, e1, c1]) ⟨_, rfl, hC, RV.refl _ _, _, rfl, hy⟩
      · obtain ⟨y, e1, hy⟩ : ∃ x : Int, a1.eval (.tmp 34) = .int .i64 x ∧ I64P x := hK.get 7 34 (by kernel_rfl) rfl rfl rfl
        refine ob_call rfl Try.func124 (by kernel_rfl) (by kernel_rfl) (vals := #[.int .i64 1, .int .i64 y]) (by simp [e1, BigFrame.eval_const]) ?_
        refine (l01Max_bits 1 y W).mono ?_
        rintro e W' ⟨m, rfl, hm, m0, m1, rfl⟩
        exact ⟨_, rfl, _, rfl, hC, RV.refl _ _, m, rfl, m0, by have := hy.2; omega⟩
      · obtain ⟨y, e1, y0, y1⟩ : ∃ x : Int, a1.eval (.tmp 35) = .int .i64 x ∧ 1 ≤ x ∧ x ≤ 9223372036854775807 := hK.get 8 35 (by kernel_rfl) rfl rfl rfl
        refine ob_call rfl Try.func123 (by kernel_rfl) (by kernel_rfl) (vals := #[.int .i64 32, .int .i64 y]) (by simp [e1, BigFrame.eval_const]) ?_
        refine (l01Min_bits 32 y W).mono ?_
        rintro e W' ⟨m, rfl, hm, m0, m1, rfl⟩
        exact ⟨_, rfl, _, rfl, hC, RV.refl _ _, m, rfl, by omega, m0⟩
      · obtain ⟨y, e1, y0, y1⟩ : ∃ x : Int, a1.eval (.tmp 36) = .int .i64 x ∧ 1 ≤ x ∧ x ≤ 32 := hK.get 9 36 (by kernel_rfl) rfl rfl rfl
        refine ob_call rfl Try.func122 (by kernel_rfl) (by kernel_rfl) (vals := #[.int .i64 y]) (by simp [e1]) ?_
        refine (l07Pow_any y W (by omega) (by omega)).mono ?_
        rintro e W' ⟨rfl, rfl⟩
        exact ⟨_, rfl, _, rfl, hC, RV.refl _ _, powI y, rfl, powI_pos y, powI_le y1⟩
      · have e1 : a1.eval (.tmp 32) = .pointer (some ⟨S, 0, none⟩) := hK.get 5 32 (by kernel_rfl) rfl rfl rfl
        obtain ⟨y, e2, y0, y1⟩ : ∃ x : Int, a1.eval (.tmp 37) = .int .i64 x ∧ 1 ≤ x ∧ x ≤ 4294967296 := hK.get 10 37 (by kernel_rfl) rfl rfl rfl
        refine ob_call rfl Try.func81 (by kernel_rfl) (by kernel_rfl) (vals := #[.pointer (some ⟨S, 0, none⟩), .int .i64 y]) (by simp [e1, e2]) ?_
        refine (n_next hC.dr y (by omega)).mono ?_
        rintro e W' ⟨v, rfl, v0, vm, hd, hg⟩
        exact ⟨_, rfl, _, rfl, hC.go hd hg, RV.grown hg, v, rfl, by omega, by omega⟩
      · exact ob_value (BigFrame.run_assign _ rfl W) ⟨_, rfl, hC, RV.refl _ _, hK.get 0 27 (by kernel_rfl) rfl rfl rfl⟩
      · exact ob_value (BigFrame.run_assign _ rfl W) ⟨_, rfl, hC, RV.refl _ _, hK.get 2 29 (by kernel_rfl) rfl rfl rfl⟩
      · exact ob_value (BigFrame.run_assign _ rfl W) ⟨_, rfl, hC, RV.refl _ _, hK.get 4 31 (by kernel_rfl) rfl rfl rfl⟩
      · exact ob_value (BigFrame.run_assign _ rfl W) ⟨_, rfl, hC, RV.refl _ _, hK.get 11 38 (by kernel_rfl) rfl rfl rfl⟩
    · intro vs W hC hT
      have e5 : vs 12 = .string ⟨l.toArray⟩ := hT 12 (by decide)
      obtain ⟨x2, e6, hx2⟩ : ∃ x : Int, vs 13 = .int .i64 x ∧ I64P x := hT 13 (by decide)
      obtain ⟨y2, e7, hy2⟩ : ∃ x : Int, vs 14 = .int .i64 x ∧ I64P x := hT 14 (by decide)
      obtain ⟨n2, e8, hn2⟩ : ∃ x : Int, vs 15 = .int .i64 x ∧ I64P x := hT 15 (by decide)
      simp only [fillL, if_true, Act.put, List.setIfInBounds_toArray, List.set_cons_zero, List.set_cons_succ, e5, e6, e7, e8]
      have HB := Lib.hid hC.dr.below
      clear hC hT e5 e6 e7 e8
      go_wp2_with fail
      exact bodyPost_ret (v := .tuple #[.string ⟨l.toArray⟩, .int .i64 x2, .int .i64 y2, .int .i64 n2]) (by simp [results, Try.results45, go_sem]) rfl ⟨l, x2, y2, n2, hl, hx2, hy2, hn2, rfl, HB.out⟩
  · go_wp2_with fail
    refine wp_region_anyord (CB w S a len cap zs [V] []) (RV S) (TPA S V (.string ⟨l.toArray⟩)) (by kernel_rfl) (by kernel_rfl) (by kernel_rfl) TPA.kept ?_ ?_ ?_
    · exact ⟨HC.out.dr.drew, HC.out.fd, HC.out.vl⟩
    · refine ⟨⟨rfl, fun a1 W hC hK => ?_⟩, ⟨rfl, fun a1 W hC hK => ?_⟩, ⟨rfl, fun a1 W hC hK => ?_⟩, ⟨rfl, fun a1 W hC hK => ?_⟩, ⟨rfl, fun a1 W hC hK => ?_⟩, ⟨rfl, fun a1 W hC hK => ?_⟩, ⟨rfl, fun a1 W hC hK => ?_⟩, ⟨rfl, fun a1 W hC hK => ?_⟩, ⟨rfl, fun a1 W hC hK => ?_⟩, ⟨rfl, fun a1 W hC hK => ?_⟩, ⟨rfl, fun a1 W hC hK => ?_⟩, ⟨rfl, fun a1 W hC hK => ?_⟩, ⟨rfl, fun a1 W hC hK => ?_⟩, ⟨rfl, fun a1 W hC hK => ?_⟩, trivial⟩
      · exact ob_move rfl ⟨_, rfl, hC, RV.refl _ _, (hK.old 7 (by kernel_rfl)).trans rfl⟩
      · have e1 : a1.eval (.tmp 8) = .pointer (some ⟨V, 0, none⟩) := (hK.old 8 (by kernel_rfl)).trans rfl
        have hl := hC.fd V (by simp)
        obtain ⟨_, _, hlt, x, y, g, hV, _⟩ := hl
        obtain ⟨c0, c1, c2⟩ := fdCells hV
        simp only [Act.eval, Array.getD_eq_getD_getElem?] at e1
        exact ob_value (v := .pointer (some ⟨V, 0, none⟩)) (w' := W) (by simp [execOp, go_sem, e1]) ⟨_, rfl, hC, RV.refl _ _, rfl⟩
      · have e1 : a1.eval (.tmp 18) = .pointer (some ⟨V, 0, none⟩) := hK.get 1 18 (by kernel_rfl) rfl rfl rfl
        obtain ⟨_, _, _, x, y, g, hV, hx, hy⟩ := hC.fd V (by simp)
        obtain ⟨c0, c1, c2⟩ := fdCells hV
        simp only [Act.eval, Array.getD_eq_getD_getElem?] at e1
        exact ob_value (v := .int .i64 x) (w' := W) (by simp [execOp, go_sem, e1, c0]) ⟨_, rfl, hC, RV.refl _ _, _, rfl, hx⟩
      · have e1 : a1.eval (.tmp 8) = .pointer (some ⟨V, 0, none⟩) := (hK.old 8 (by kernel_rfl)).trans rfl
        have hl := hC.fd V (by simp)
        obtain ⟨_, _, hlt, x, y, g, hV, _⟩ := hl
        obtain ⟨c0, c1, c2⟩ := fdCells hV
        simp only [Act.eval, Array.getD_eq_getD_getElem?] at e1
        exact ob_value (v := .pointer (some ⟨V, 1, none⟩)) (w' := W) (by simp [execOp, go_sem, e1]) ⟨_, rfl, hC, RV.refl _ _, rfl⟩
      · have e1 : a1.eval (.tmp 20) = .pointer (some ⟨V, 1, none⟩) := hK.get 3 20 (by kernel_rfl) rfl rfl rfl
        obtain ⟨_, _, _, x, y, g, hV, hx, hy⟩ := hC.fd V (by simp)
        obtain ⟨c0, c1, c2⟩ := fdCells hV
        simp only [Act.eval, Array.getD_eq_getD_getElem?] at e1
        exact ob_value (v := .int .i64 y) (w' := W) (by simp [execOp, go_sem, e1, c1]) ⟨_, rfl, hC, RV.refl _ _, _, rfl, hy⟩
      · exact ob_value (v := .slice (some ⟨W.heap.size, 0, none⟩) 3 3) (w' := W.alloc (.cells #[.int .i64 (-1), .int .i64 4294967295, .int .i64 4294967296] 2)) (by simp [execOp, go_sem]) ⟨_, rfl, hC.go (hC.dr.alloc _) (World.grownBy_alloc _ _ _), RV.grown (World.grownBy_alloc _ _ _), W.heap.size, _, rfl, by have := hC.dr.src.lt; omega, by simp, heap_alloc_new W _, fun k hk => by
          match k, hk with
          | 0, _ => exact ⟨-1, rfl, by omega, by omega⟩
          | 1, _ => exact ⟨4294967295, rfl, by omega, by omega⟩
          | 2, _ => exact ⟨4294967296, rfl, by omega, by omega⟩⟩
      · exact ob_move rfl ⟨_, rfl, hC, RV.refl _ _, (hK.old 6 (by kernel_rfl)).trans rfl⟩
      · have e1 : a1.eval (.tmp 23) = .pointer (some ⟨S, 0, none⟩) := hK.get 6 23 (by kernel_rfl) rfl rfl rfl
        refine ob_call rfl Try.func81 (by kernel_rfl) (by kernel_rfl) (vals := #[.pointer (some ⟨S, 0, none⟩), .int .i64 3]) (by simp [e1, BigFrame.eval_const]) ?_
        refine (n_next hC.dr 3 (by omega)).mono ?_
        rintro e W' ⟨v, rfl, v0, vm, hd, hg⟩
        exact ⟨_, rfl, _, rfl, hC.go hd hg, RV.grown hg, v.toNat, by rw [Int.toNat_of_nonneg v0], by omega⟩
      · have h9 : LitAt 2 S 3 (-1) 4294967296 W (a1.eval (.tmp 22)) := hK.get 5 22 (by kernel_rfl) rfl rfl rfl
        obtain ⟨k, e2, hk⟩ : ∃ k : Nat, a1.eval (.tmp 24) = .int .i64 (k : Int) ∧ k < 3 := hK.get 7 24 (by kernel_rfl) rfl rfl rfl
        obtain ⟨G, e1, hp⟩ := h9.pick hk
        have k0 : (0 : Int) ≤ (k : Int) := by omega
        have k1 : (k : Int) < 3 := by omega
        simp only [Act.eval, Array.getD_eq_getD_getElem?] at e1 e2
        exact ob_value (v := .pointer (some ⟨G, k, none⟩)) (w' := W) (by simp [execOp, go_sem, e1, e2, k0, k1]) ⟨_, rfl, hC, RV.refl _ _, hp⟩
      · have h12 : PickAt 2 S (-1) 4294967296 W (a1.eval (.tmp 25)) := hK.get 8 25 (by kernel_rfl) rfl rfl rfl
        obtain ⟨p, x, e1, hc, x0, x1⟩ := h12.cell
        simp only [Act.eval, Array.getD_eq_getD_getElem?] at e1
        exact ob_value (v := .int .i64 x) (w' := W) (by simp [execOp, go_sem, e1, hc]) ⟨_, rfl, hC, RV.refl _ _, x, rfl, by omega, by omega⟩
      · exact ob_value (BigFrame.run_assign _ rfl W) ⟨_, rfl, hC, RV.refl _ _, hK.get 0 17 (by kernel_rfl) rfl rfl rfl⟩
      · exact ob_value (BigFrame.run_assign _ rfl W) ⟨_, rfl, hC, RV.refl _ _, hK.get 2 19 (by kernel_rfl) rfl rfl rfl⟩
      · exact ob_value (BigFrame.run_assign _ rfl W) ⟨_, rfl, hC, RV.refl _ _, hK.get 4 21 (by kernel_rfl) rfl rfl rfl⟩
      · exact ob_value (BigFrame.run_assign _ rfl W) ⟨_, rfl, hC, RV.refl _ _, hK.get 9 26 (by kernel_rfl) rfl rfl rfl⟩
    · intro vs W hC hT
      have e5 : vs 10 = .string ⟨l.toArray⟩ := hT 10 (by decide)
      obtain ⟨x2, e6, hx2⟩ : ∃ x : Int, vs 11 = .int .i64 x ∧ I64P x := hT 11 (by decide)
      obtain ⟨y2, e7, hy2⟩ : ∃ x : Int, vs 12 = .int .i64 x ∧ I64P x := hT 12 (by decide)
      obtain ⟨n2, e8, hn2⟩ : ∃ x : Int, vs 13 = .int .i64 x ∧ I64P x := hT 13 (by decide)
      simp only [fillL, if_true, Act.put, List.setIfInBounds_toArray, List.set_cons_zero, List.set_cons_succ, e5, e6, e7, e8]
      have HB := Lib.hid hC.dr.below
      clear hC hT e5 e6 e7 e8
      go_wp2_with fail
      exact bodyPost_ret (v := .tuple #[.string ⟨l.toArray⟩, .int .i64 x2, .int .i64 y2, .int .i64 n2]) (by simp [results, Try.results45, go_sem]) rfl ⟨l, x2, y2, n2, hl, hx2, hy2, hn2, rfl, HB.out⟩
end
end Go.Proofs.Ytigenkcamhenaaa
