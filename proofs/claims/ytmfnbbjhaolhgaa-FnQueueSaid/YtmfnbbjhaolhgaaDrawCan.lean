/- Drawn groups, Ids and Cans: what the draws leave. Nothing that was there is written, but the source. -/
import Derived.Test.YtmfnbbjhaolhgaaDraw
import Derived.Test.YtmfnbbjhaolhgaaCanRead
namespace Go.Proofs.Ytmfnbbjhaolhgaa
open Go.RowKit
set_option linter.unusedVariables false

theorem pick_cell {w w1 : World} {S : Nat} {T : TypeId} (L : List Int) (hS : S < w.heap.size) (hg : (w.alloc (.cells (L.map (Value.int .i64)).toArray T)).grownBy w1 (some S)) (j : Nat) (hj : j < L.length) :
    ∃ x, w1.cell? ⟨w.heap.size, j, none⟩ = some (.int .i64 x) ∧ x ∈ L := by
  have hb := (hg.block w.heap.size (by simp) (fun e => by have := Option.some.inj e; omega)).trans (heap_alloc_new w _)
  refine ⟨L[j], ?_, List.getElem_mem hj⟩
  rw [cell_of_row w1 w.heap.size j _ _ _ hb]
  simp [List.getElem?_eq_getElem hj]
/-- A cell of another block than the source is as it was. -/
theorem far_cell {u u' : World} {S : Nat} (hg : u.grownBy u' (some S)) {g : Nat} (hlt : g < u.heap.size) (hne : g ≠ S) (i : Nat) : u'.cell? ⟨g, i, none⟩ = u.cell? ⟨g, i, none⟩ ∧ u'.frozen? ⟨g, i, none⟩ = u.frozen? ⟨g, i, none⟩ :=
  ⟨World.cell?_of_block (hg.block g hlt fun e => hne (Option.some.inj e)), World.frozen?_of_block (hg.block g hlt fun e => hne (Option.some.inj e))⟩
theorem grownBy_new {w w' : World} {r : Option Nat} (h : w.grownBy w' r) {p : Addr} (hp : w.heap.size ≤ p.block) (v : Value) : w.grownBy (w'.setCell p v) r :=
  ⟨h.os, h.tape, h.output, by simpa [World.setCell] using h.size, fun k hk hne => by
    rw [heap_setCell_other w' p k v (by omega)]
    exact h.block k hk hne⟩
theorem grownBy_made {w w' w'' : World} {r : Option Nat} (h : w.grownBy w' r) (hb : Below w'.heap.size w' w'') : w.grownBy w'' r :=
  ⟨hb.os.trans h.os, hb.tape.trans h.tape, hb.output.trans h.output, Nat.le_trans h.size hb.size, fun k hk hne => (hb.block k (Nat.lt_of_lt_of_le hk h.size)).trans (h.block k hk hne)⟩
section
variable {w u u' : World} {S : Nat} {a : Option Addr} {len cap : Nat} {zs : List Int}
theorem Dr.set (h : Dr w S a len cap zs u) {p : Addr} (hp : p.block ≠ S) (hw : w.heap.size ≤ p.block) (v : Value) : Dr w S a len cap zs (u.setCell p v) :=
  ⟨h.src.of_heap (heap_setCell_other u p S v (fun e => hp e.symm)), h.row.kept (B := w.heap.size) ((Below.refl _ _).setCell hw _) h.args, h.below.setCell hw _, h.lo, h.args, h.few⟩
/-- A drawn number between two. -/
def NextV (w : World) (S : Nat) (a : Option Addr) (len cap : Nat) (zs : List Int) (lo hi : Int) (u : World) (e : Ending) (u' : World) : Prop :=
  ∃ v : Int, e = .returned (.int .i64 v) ∧ lo ≤ v ∧ v ≤ hi ∧ Dr w S a len cap zs u' ∧ u.grownBy u' (some S)

theorem pgn_odd : ∀ x ∈ ([-1, 0, 61440, 61439, 131071, 131072, 65280] : List Int), -1 ≤ x ∧ x ≤ 131072 := by decide
theorem pgn_even : ∀ x ∈ ([127250, 127488, 128267, 128275, 129025, 130306, 60928, 59904, 126208] : List Int), -1 ≤ x ∧ x ≤ 131072 := by decide
set_option maxHeartbeats 2000000 in
theorem pgn_next (h : Dr w S a len cap zs u) : Calls Try.prog 80 #[.pointer (some ⟨S, 0, none⟩)] u (NextV w S a len cap zs (-1) 131072 u) := by
  have hS := h.src.lt
  go_enter Try.func80, Try.ntmps80
  go_wp2_with fail
  refine (one_next h 12 (by omega)).mono ?_
  rintro e u1 ⟨v1, rfl, h1, g1⟩
  have hS1 := h1.src.lt
  cases v1
  · go_wp2_with fail
    refine (n_next (h1.alloc _) 9 (by omega)).mono ?_
    rintro e u2 ⟨v, rfl, v0, vm, h2, g2⟩
    obtain ⟨x, hx, hm⟩ := pick_cell [127250, 127488, 128267, 128275, 129025, 130306, 60928, 59904, 126208] hS1 g2 v.toNat (by simp; omega)
    have hb := pgn_even x hm
    have hv : v < 9 := by omega
    clear hm vm
    go_wp2
    go_ret
    exact ⟨x, rfl, hb.1, hb.2, h2, grownBy_trans g1 (grownBy_trans (World.grownBy_alloc _ _ _) g2)⟩
  · go_wp2_with fail
    refine (n_next (h1.alloc _) 7 (by omega)).mono ?_
    rintro e u2 ⟨v, rfl, v0, vm, h2, g2⟩
    obtain ⟨x, hx, hm⟩ := pick_cell [-1, 0, 61440, 61439, 131071, 131072, 65280] hS1 g2 v.toNat (by simp; omega)
    have hb := pgn_odd x hm
    have hv : v < 7 := by omega
    clear hm vm
    go_wp2
    go_ret
    exact ⟨x, rfl, hb.1, hb.2, h2, grownBy_trans g1 (grownBy_trans (World.grownBy_alloc _ _ _) g2)⟩
/-- A drawn Id. -/
def NextId (w : World) (S : Nat) (a : Option Addr) (len cap : Nat) (zs : List Int) (u : World) (e : Ending) (u' : World) : Prop :=
  ∃ p b d s : Int, e = .returned (.agg #[.int .i64 p, .int .i64 b, .int .i64 d, .int .i64 s]) ∧ (-1 ≤ p ∧ p ≤ 8) ∧ (-1 ≤ b ∧ b ≤ 131072) ∧ (-1 ≤ d ∧ d ≤ 256) ∧ (-1 ≤ s ∧ s ≤ 256) ∧ Dr w S a len cap zs u' ∧ u.grownBy u' (some S)
theorem id_prio : ∀ x ∈ ([-1, 8] : List Int), -1 ≤ x ∧ x ≤ 8 := by decide
theorem id_src : ∀ x ∈ ([-1, 255, 256] : List Int), -1 ≤ x ∧ x ≤ 256 := by decide
theorem id_dest : ∀ x ∈ ([-1, 0, 256] : List Int), -1 ≤ x ∧ x ≤ 256 := by decide
/-- The four cells of an Id. -/
def IdAt (w : World) (g : Nat) (p b d s : Int) : Prop :=
  w.cell? ⟨g, 0, none⟩ = some (.int .i64 p) ∧ w.cell? ⟨g, 1, none⟩ = some (.int .i64 b) ∧ w.cell? ⟨g, 2, none⟩ = some (.int .i64 d) ∧ w.cell? ⟨g, 3, none⟩ = some (.int .i64 s) ∧
  w.frozen? ⟨g, 0, none⟩ = false ∧ w.frozen? ⟨g, 1, none⟩ = false ∧ w.frozen? ⟨g, 2, none⟩ = false ∧ w.frozen? ⟨g, 3, none⟩ = false
theorem IdAt.far {u u' : World} {g : Nat} {p b d s : Int} (h : IdAt u g p b d s) {S : Nat} (hg : u.grownBy u' (some S)) (hlt : g < u.heap.size) (hne : g ≠ S) : IdAt u' g p b d s :=
  ⟨(far_cell hg hlt hne 0).1.trans h.1, (far_cell hg hlt hne 1).1.trans h.2.1, (far_cell hg hlt hne 2).1.trans h.2.2.1, (far_cell hg hlt hne 3).1.trans h.2.2.2.1,
   (far_cell hg hlt hne 0).2.trans h.2.2.2.2.1, (far_cell hg hlt hne 1).2.trans h.2.2.2.2.2.1, (far_cell hg hlt hne 2).2.trans h.2.2.2.2.2.2.1, (far_cell hg hlt hne 3).2.trans h.2.2.2.2.2.2.2⟩
theorem IdAt.alloc {u : World} {g : Nat} {p b d s : Int} (h : IdAt u g p b d s) (hlt : g < u.heap.size) (o : Obj) : IdAt (u.alloc o) g p b d s :=
  h.far (S := u.heap.size) (World.grownBy_alloc _ _ _) hlt (by omega)
theorem IdAt.new (u : World) (p b d s : Int) (T : TypeId) : IdAt (u.alloc (.cells #[.int .i64 p, .int .i64 b, .int .i64 d, .int .i64 s] T)) u.heap.size p b d s := by
  refine ⟨?_, ?_, ?_, ?_, ?_, ?_, ?_, ?_⟩ <;> simp [go_sem]
theorem IdAt.setDest {u : World} {g : Nat} {p b d s : Int} (h : IdAt u g p b d s) (x : Int) : IdAt (u.setCell ⟨g, 2, none⟩ (.int .i64 x)) g p b x s := by
  obtain ⟨h0, h1, h2, h3, f0, f1, f2, f3⟩ := h
  refine ⟨?_, ?_, ?_, ?_, ?_, ?_, ?_, ?_⟩ <;> first
    | (rw [World.frozen?_setCell]; assumption)
    | (rw [World.cell?_setCell_other _ _ _ _ (by simp)]; assumption)
    | exact World.cell?_setCell_same _ _ _ h2
theorem IdAt.setFar {u : World} {g : Nat} {p b d s : Int} (h : IdAt u g p b d s) {q : Addr} (hq : q.block ≠ g) (v : Value) : IdAt (u.setCell q v) g p b d s := by
  obtain ⟨h0, h1, h2, h3, f0, f1, f2, f3⟩ := h
  refine ⟨?_, ?_, ?_, ?_, ?_, ?_, ?_, ?_⟩ <;> first
    | (rw [World.frozen?_setCell]; assumption)
    | (rw [World.cell?_setCell_other _ _ _ _ (fun e => hq (by rw [e]))]; assumption)
set_option maxHeartbeats 4000000 in
theorem id_next (h : Dr w S a len cap zs u) : Calls Try.prog 72 #[.pointer (some ⟨S, 0, none⟩)] u (NextId w S a len cap zs u) := by
  have hS := h.src.lt
  have hlo := h.lo
  have hwu := h.below.size
  have neR : u.heap.size ≠ S := by omega
  have IR0 := IdAt.new u 0 0 0 0 75
  go_enter Try.func72, Try.ntmps72
  go_wp2_with fail
  refine (n_next (h.alloc _) 8 (by omega)).mono ?_
  rintro e u1 ⟨p, rfl, p0, pm, h1, g1⟩
  go_wp2_with fail
  refine (pgn_next h1).mono ?_
  rintro e u2 ⟨b, rfl, b0, bm, h2, g2⟩
  go_wp2_with fail
  refine (n_next h2 5 (by omega)).mono ?_
  rintro e u3 ⟨s, rfl, s0, sm, h3, g3⟩
  have gB3 := grownBy_trans g1 (grownBy_trans g2 g3)
  have z3 : u.heap.size < u3.heap.size := by have := gB3.size; simp at this; omega
  have neG : u3.heap.size ≠ S := by have := h3.src.lt; omega
  have wG : w.heap.size ≤ u3.heap.size := by omega
  have zuG : u.heap.size ≤ u3.heap.size := by omega
  have IR4 := (IR0.far gB3 (by simp) neR).alloc z3 (.cells #[.int .i64 p, .int .i64 b, .int .i64 255, .int .i64 s] 75)
  have IG4 := IdAt.new u3 p b 255 s 75
  have gg4 := grownBy_alloc (grownBy_trans (World.grownBy_alloc _ _ _) gB3) (.cells #[.int .i64 p, .int .i64 b, .int .i64 255, .int .i64 s] 75)
  have hD4 := h3.alloc (.cells #[.int .i64 p, .int .i64 b, .int .i64 255, .int .i64 s] 75)
  have zG : u3.heap.size < (u3.alloc (.cells #[.int .i64 p, .int .i64 b, .int .i64 255, .int .i64 s] 75)).heap.size := by simp
  have zR : u.heap.size < (u3.alloc (.cells #[.int .i64 p, .int .i64 b, .int .i64 255, .int .i64 s] 75)).heap.size := by simp; omega
  clear h h1 h2 h3 g1 g2 g3 gB3 IR0
  go_wp2_with fail
  refine (l02Broad_any b _ (by omega) (by omega)).mono ?_
  rintro e u4 ⟨rfl, rfl⟩
  rcases hw : wideB b
  · go_wp2_with fail
    refine (one_next hD4 2 (by omega)).mono ?_
    rintro e v0 ⟨o, rfl, hD5, g5⟩
    have IG5 := IG4.far g5 zG neG
    have IR5 := IR4.far g5 zR neR
    have gg5 := grownBy_trans gg4 g5
    have zG5 := Nat.lt_of_lt_of_le zG g5.size
    have zR5 := Nat.lt_of_lt_of_le zR g5.size
    clear zG zR hD4 gg4 IG4 IR4
    have zG := zG5
    have zR := zR5
    cases o
    · go_wp2_with fail
      refine (one_next hD5 15 (by omega)).mono ?_
      rintro e v1 ⟨o, rfl, hD1, gA⟩
      have IG1 := IG5.far gA zG neG
      have IR1 := IR5.far gA zR neR
      have gg1 := grownBy_trans gg5 gA
      have zG1 : u3.heap.size < v1.heap.size := Nat.lt_of_lt_of_le zG gA.size
      have zR1 : u.heap.size < v1.heap.size := Nat.lt_of_lt_of_le zR gA.size
      cases o
      · obtain ⟨c0, c1, c2, c3, f0, f1, f2, f3⟩ := IG1
        obtain ⟨r0, r1, r2, r3, e0, e1, e2, e3⟩ := IR1
        go_wp2
        exact bodyPost_ret (v := .agg #[.int .i64 p, .int .i64 b, .int .i64 255, .int .i64 s]) (by simp [results, Try.results72, go_sem, r0, r1, r2, r3]) rfl
          ⟨_, _, _, _, rfl, by omega, by omega, by omega, by omega, ((((hD1.set (p := ⟨u.heap.size, 0, none⟩) neR hwu _).set (p := ⟨u.heap.size, 1, none⟩) neR hwu _).set (p := ⟨u.heap.size, 2, none⟩) neR hwu _).set (p := ⟨u.heap.size, 3, none⟩) neR hwu _), (grownBy_new (grownBy_new (grownBy_new (grownBy_new gg1 (p := ⟨u.heap.size, 0, none⟩) (Nat.le_refl _) _) (p := ⟨u.heap.size, 1, none⟩) (Nat.le_refl _) _) (p := ⟨u.heap.size, 2, none⟩) (Nat.le_refl _) _) (p := ⟨u.heap.size, 3, none⟩) (Nat.le_refl _) _)⟩
      · go_wp2_with fail
        refine (n_next hD1 3 (by omega)).mono ?_
        rintro e v2 ⟨k, rfl, k0, km, hD2, gB⟩
        have IG2 := IG1.far gB zG1 neG
        have IR2 := IR1.far gB zR1 neR
        have gg2 := grownBy_trans gg1 gB
        have zG2 : u3.heap.size < v2.heap.size := Nat.lt_of_lt_of_le zG1 gB.size
        have zR2 : u.heap.size < v2.heap.size := Nat.lt_of_lt_of_le zR1 gB.size
        have hS2 := hD2.src.lt
        rcases (show k = 0 ∨ k = 1 ∨ k = 2 by omega) with rfl | rfl | rfl
        · go_wp2_with fail
          refine (n_next (hD2.alloc _) 2 (by omega)).mono ?_
          rintro e v3 ⟨j, rfl, j0, jm, hD3, gC⟩
          obtain ⟨x, hx, hm⟩ := pick_cell [-1, 8] hS2 gC j.toNat (by simp; omega)
          have hb := id_prio x hm
          have hj : j < 2 := by omega
          clear hm jm
          have gD := grownBy_trans (World.grownBy_alloc _ _ _) gC
          have IG3 := IG2.far gD zG2 neG
          have IR3 := IR2.far gD zR2 neR
          have gg3 := grownBy_trans gg2 gD
          obtain ⟨c0, c1, c2, c3, f0, f1, f2, f3⟩ := IG3
          obtain ⟨r0, r1, r2, r3, e0, e1, e2, e3⟩ := IR3
          go_wp2
          exact bodyPost_ret (v := .agg #[.int .i64 x, .int .i64 b, .int .i64 255, .int .i64 s]) (by simp [results, Try.results72, go_sem, r0, r1, r2, r3]) rfl
            ⟨_, _, _, _, rfl, by omega, by omega, by omega, by omega, (((((hD3.set (p := ⟨u3.heap.size, _, none⟩) neG wG _).set (p := ⟨u.heap.size, 0, none⟩) neR hwu _).set (p := ⟨u.heap.size, 1, none⟩) neR hwu _).set (p := ⟨u.heap.size, 2, none⟩) neR hwu _).set (p := ⟨u.heap.size, 3, none⟩) neR hwu _), (grownBy_new (grownBy_new (grownBy_new (grownBy_new (grownBy_new gg3 (p := ⟨u3.heap.size, _, none⟩) zuG _) (p := ⟨u.heap.size, 0, none⟩) (Nat.le_refl _) _) (p := ⟨u.heap.size, 1, none⟩) (Nat.le_refl _) _) (p := ⟨u.heap.size, 2, none⟩) (Nat.le_refl _) _) (p := ⟨u.heap.size, 3, none⟩) (Nat.le_refl _) _)⟩
        · go_wp2_with fail
          refine (n_next (hD2.alloc _) 3 (by omega)).mono ?_
          rintro e v3 ⟨j, rfl, j0, jm, hD3, gC⟩
          obtain ⟨x, hx, hm⟩ := pick_cell [-1, 255, 256] hS2 gC j.toNat (by simp; omega)
          have hb := id_src x hm
          have hj : j < 3 := by omega
          clear hm jm
          have gD := grownBy_trans (World.grownBy_alloc _ _ _) gC
          have IG3 := IG2.far gD zG2 neG
          have IR3 := IR2.far gD zR2 neR
          have gg3 := grownBy_trans gg2 gD
          obtain ⟨c0, c1, c2, c3, f0, f1, f2, f3⟩ := IG3
          obtain ⟨r0, r1, r2, r3, e0, e1, e2, e3⟩ := IR3
          go_wp2
          exact bodyPost_ret (v := .agg #[.int .i64 p, .int .i64 b, .int .i64 255, .int .i64 x]) (by simp [results, Try.results72, go_sem, r0, r1, r2, r3]) rfl
            ⟨_, _, _, _, rfl, by omega, by omega, by omega, by omega, (((((hD3.set (p := ⟨u3.heap.size, _, none⟩) neG wG _).set (p := ⟨u.heap.size, 0, none⟩) neR hwu _).set (p := ⟨u.heap.size, 1, none⟩) neR hwu _).set (p := ⟨u.heap.size, 2, none⟩) neR hwu _).set (p := ⟨u.heap.size, 3, none⟩) neR hwu _), (grownBy_new (grownBy_new (grownBy_new (grownBy_new (grownBy_new gg3 (p := ⟨u3.heap.size, _, none⟩) zuG _) (p := ⟨u.heap.size, 0, none⟩) (Nat.le_refl _) _) (p := ⟨u.heap.size, 1, none⟩) (Nat.le_refl _) _) (p := ⟨u.heap.size, 2, none⟩) (Nat.le_refl _) _) (p := ⟨u.heap.size, 3, none⟩) (Nat.le_refl _) _)⟩
        · go_wp2_with fail
          refine (n_next (hD2.alloc _) 3 (by omega)).mono ?_
          rintro e v3 ⟨j, rfl, j0, jm, hD3, gC⟩
          obtain ⟨x, hx, hm⟩ := pick_cell [-1, 0, 256] hS2 gC j.toNat (by simp; omega)
          have hb := id_dest x hm
          have hj : j < 3 := by omega
          clear hm jm
          have gD := grownBy_trans (World.grownBy_alloc _ _ _) gC
          have IG3 := IG2.far gD zG2 neG
          have IR3 := IR2.far gD zR2 neR
          have gg3 := grownBy_trans gg2 gD
          obtain ⟨c0, c1, c2, c3, f0, f1, f2, f3⟩ := IG3
          obtain ⟨r0, r1, r2, r3, e0, e1, e2, e3⟩ := IR3
          go_wp2
          exact bodyPost_ret (v := .agg #[.int .i64 p, .int .i64 b, .int .i64 x, .int .i64 s]) (by simp [results, Try.results72, go_sem, r0, r1, r2, r3]) rfl
            ⟨_, _, _, _, rfl, by omega, by omega, by omega, by omega, (((((hD3.set (p := ⟨u3.heap.size, _, none⟩) neG wG _).set (p := ⟨u.heap.size, 0, none⟩) neR hwu _).set (p := ⟨u.heap.size, 1, none⟩) neR hwu _).set (p := ⟨u.heap.size, 2, none⟩) neR hwu _).set (p := ⟨u.heap.size, 3, none⟩) neR hwu _), (grownBy_new (grownBy_new (grownBy_new (grownBy_new (grownBy_new gg3 (p := ⟨u3.heap.size, _, none⟩) zuG _) (p := ⟨u.heap.size, 0, none⟩) (Nat.le_refl _) _) (p := ⟨u.heap.size, 1, none⟩) (Nat.le_refl _) _) (p := ⟨u.heap.size, 2, none⟩) (Nat.le_refl _) _) (p := ⟨u.heap.size, 3, none⟩) (Nat.le_refl _) _)⟩
    · go_wp2_with fail
      refine (n_next hD5 5 (by omega)).mono ?_
      rintro e v9 ⟨d, rfl, d0, dm, hD6, g6⟩
      have IG6 := IG5.far g6 zG neG
      have IR6 := IR5.far g6 zR neR
      have zG6 := Nat.lt_of_lt_of_le zG g6.size
      have zR6 := Nat.lt_of_lt_of_le zR g6.size
      have zG : u3.heap.size < (v9.setCell ⟨u3.heap.size, 2, none⟩ (.int .i64 d)).heap.size := by simpa using zG6
      have zR : u.heap.size < (v9.setCell ⟨u3.heap.size, 2, none⟩ (.int .i64 d)).heap.size := by simpa using zR6
      have IG7 := IG6.setDest d
      have IR7 := IR6.setFar (q := ⟨u3.heap.size, 2, none⟩) (by show u3.heap.size ≠ _; omega) (.int .i64 d)
      have hD7 := hD6.set (p := ⟨u3.heap.size, 2, none⟩) neG wG (.int .i64 d)
      have gg7 := grownBy_new (grownBy_trans gg5 g6) (p := ⟨u3.heap.size, 2, none⟩) zuG (.int .i64 d)
      obtain ⟨c0, c1, c2, c3, f0, f1, f2, f3⟩ := IG6
      clear IG5 IR5 hD5 hD6 gg5
      go_wp2_with fail
      refine (one_next hD7 15 (by omega)).mono ?_
      rintro e v1 ⟨o, rfl, hD1, gA⟩
      have IG1 := IG7.far gA zG neG
      have IR1 := IR7.far gA zR neR
      have gg1 := grownBy_trans gg7 gA
      have zG1 : u3.heap.size < v1.heap.size := Nat.lt_of_lt_of_le zG gA.size
      have zR1 : u.heap.size < v1.heap.size := Nat.lt_of_lt_of_le zR gA.size
      cases o
      · obtain ⟨c0, c1, c2, c3, f0, f1, f2, f3⟩ := IG1
        obtain ⟨r0, r1, r2, r3, e0, e1, e2, e3⟩ := IR1
        go_wp2
        exact bodyPost_ret (v := .agg #[.int .i64 p, .int .i64 b, .int .i64 d, .int .i64 s]) (by simp [results, Try.results72, go_sem, r0, r1, r2, r3]) rfl
          ⟨_, _, _, _, rfl, by omega, by omega, by omega, by omega, ((((hD1.set (p := ⟨u.heap.size, 0, none⟩) neR hwu _).set (p := ⟨u.heap.size, 1, none⟩) neR hwu _).set (p := ⟨u.heap.size, 2, none⟩) neR hwu _).set (p := ⟨u.heap.size, 3, none⟩) neR hwu _), (grownBy_new (grownBy_new (grownBy_new (grownBy_new gg1 (p := ⟨u.heap.size, 0, none⟩) (Nat.le_refl _) _) (p := ⟨u.heap.size, 1, none⟩) (Nat.le_refl _) _) (p := ⟨u.heap.size, 2, none⟩) (Nat.le_refl _) _) (p := ⟨u.heap.size, 3, none⟩) (Nat.le_refl _) _)⟩
      · go_wp2_with fail
        refine (n_next hD1 3 (by omega)).mono ?_
        rintro e v2 ⟨k, rfl, k0, km, hD2, gB⟩
        have IG2 := IG1.far gB zG1 neG
        have IR2 := IR1.far gB zR1 neR
        have gg2 := grownBy_trans gg1 gB
        have zG2 : u3.heap.size < v2.heap.size := Nat.lt_of_lt_of_le zG1 gB.size
        have zR2 : u.heap.size < v2.heap.size := Nat.lt_of_lt_of_le zR1 gB.size
        have hS2 := hD2.src.lt
        rcases (show k = 0 ∨ k = 1 ∨ k = 2 by omega) with rfl | rfl | rfl
        · go_wp2_with fail
          refine (n_next (hD2.alloc _) 2 (by omega)).mono ?_
          rintro e v3 ⟨j, rfl, j0, jm, hD3, gC⟩
          obtain ⟨x, hx, hm⟩ := pick_cell [-1, 8] hS2 gC j.toNat (by simp; omega)
          have hb := id_prio x hm
          have hj : j < 2 := by omega
          clear hm jm
          have gD := grownBy_trans (World.grownBy_alloc _ _ _) gC
          have IG3 := IG2.far gD zG2 neG
          have IR3 := IR2.far gD zR2 neR
          have gg3 := grownBy_trans gg2 gD
          obtain ⟨c0, c1, c2, c3, f0, f1, f2, f3⟩ := IG3
          obtain ⟨r0, r1, r2, r3, e0, e1, e2, e3⟩ := IR3
          go_wp2
          exact bodyPost_ret (v := .agg #[.int .i64 x, .int .i64 b, .int .i64 d, .int .i64 s]) (by simp [results, Try.results72, go_sem, r0, r1, r2, r3]) rfl
            ⟨_, _, _, _, rfl, by omega, by omega, by omega, by omega, (((((hD3.set (p := ⟨u3.heap.size, _, none⟩) neG wG _).set (p := ⟨u.heap.size, 0, none⟩) neR hwu _).set (p := ⟨u.heap.size, 1, none⟩) neR hwu _).set (p := ⟨u.heap.size, 2, none⟩) neR hwu _).set (p := ⟨u.heap.size, 3, none⟩) neR hwu _), (grownBy_new (grownBy_new (grownBy_new (grownBy_new (grownBy_new gg3 (p := ⟨u3.heap.size, _, none⟩) zuG _) (p := ⟨u.heap.size, 0, none⟩) (Nat.le_refl _) _) (p := ⟨u.heap.size, 1, none⟩) (Nat.le_refl _) _) (p := ⟨u.heap.size, 2, none⟩) (Nat.le_refl _) _) (p := ⟨u.heap.size, 3, none⟩) (Nat.le_refl _) _)⟩
        · go_wp2_with fail
          refine (n_next (hD2.alloc _) 3 (by omega)).mono ?_
          rintro e v3 ⟨j, rfl, j0, jm, hD3, gC⟩
          obtain ⟨x, hx, hm⟩ := pick_cell [-1, 255, 256] hS2 gC j.toNat (by simp; omega)
          have hb := id_src x hm
          have hj : j < 3 := by omega
          clear hm jm
          have gD := grownBy_trans (World.grownBy_alloc _ _ _) gC
          have IG3 := IG2.far gD zG2 neG
          have IR3 := IR2.far gD zR2 neR
          have gg3 := grownBy_trans gg2 gD
          obtain ⟨c0, c1, c2, c3, f0, f1, f2, f3⟩ := IG3
          obtain ⟨r0, r1, r2, r3, e0, e1, e2, e3⟩ := IR3
          go_wp2
          exact bodyPost_ret (v := .agg #[.int .i64 p, .int .i64 b, .int .i64 d, .int .i64 x]) (by simp [results, Try.results72, go_sem, r0, r1, r2, r3]) rfl
            ⟨_, _, _, _, rfl, by omega, by omega, by omega, by omega, (((((hD3.set (p := ⟨u3.heap.size, _, none⟩) neG wG _).set (p := ⟨u.heap.size, 0, none⟩) neR hwu _).set (p := ⟨u.heap.size, 1, none⟩) neR hwu _).set (p := ⟨u.heap.size, 2, none⟩) neR hwu _).set (p := ⟨u.heap.size, 3, none⟩) neR hwu _), (grownBy_new (grownBy_new (grownBy_new (grownBy_new (grownBy_new gg3 (p := ⟨u3.heap.size, _, none⟩) zuG _) (p := ⟨u.heap.size, 0, none⟩) (Nat.le_refl _) _) (p := ⟨u.heap.size, 1, none⟩) (Nat.le_refl _) _) (p := ⟨u.heap.size, 2, none⟩) (Nat.le_refl _) _) (p := ⟨u.heap.size, 3, none⟩) (Nat.le_refl _) _)⟩
        · go_wp2_with fail
          refine (n_next (hD2.alloc _) 3 (by omega)).mono ?_
          rintro e v3 ⟨j, rfl, j0, jm, hD3, gC⟩
          obtain ⟨x, hx, hm⟩ := pick_cell [-1, 0, 256] hS2 gC j.toNat (by simp; omega)
          have hb := id_dest x hm
          have hj : j < 3 := by omega
          clear hm jm
          have gD := grownBy_trans (World.grownBy_alloc _ _ _) gC
          have IG3 := IG2.far gD zG2 neG
          have IR3 := IR2.far gD zR2 neR
          have gg3 := grownBy_trans gg2 gD
          obtain ⟨c0, c1, c2, c3, f0, f1, f2, f3⟩ := IG3
          obtain ⟨r0, r1, r2, r3, e0, e1, e2, e3⟩ := IR3
          go_wp2
          exact bodyPost_ret (v := .agg #[.int .i64 p, .int .i64 b, .int .i64 x, .int .i64 s]) (by simp [results, Try.results72, go_sem, r0, r1, r2, r3]) rfl
            ⟨_, _, _, _, rfl, by omega, by omega, by omega, by omega, (((((hD3.set (p := ⟨u3.heap.size, _, none⟩) neG wG _).set (p := ⟨u.heap.size, 0, none⟩) neR hwu _).set (p := ⟨u.heap.size, 1, none⟩) neR hwu _).set (p := ⟨u.heap.size, 2, none⟩) neR hwu _).set (p := ⟨u.heap.size, 3, none⟩) neR hwu _), (grownBy_new (grownBy_new (grownBy_new (grownBy_new (grownBy_new gg3 (p := ⟨u3.heap.size, _, none⟩) zuG _) (p := ⟨u.heap.size, 0, none⟩) (Nat.le_refl _) _) (p := ⟨u.heap.size, 1, none⟩) (Nat.le_refl _) _) (p := ⟨u.heap.size, 2, none⟩) (Nat.le_refl _) _) (p := ⟨u.heap.size, 3, none⟩) (Nat.le_refl _) _)⟩
  · clear hw
    go_wp2_with fail
    refine (one_next hD4 15 (by omega)).mono ?_
    rintro e v1 ⟨o, rfl, hD1, gA⟩
    have IG1 := IG4.far gA zG neG
    have IR1 := IR4.far gA zR neR
    have gg1 := grownBy_trans gg4 gA
    have zG1 : u3.heap.size < v1.heap.size := Nat.lt_of_lt_of_le zG gA.size
    have zR1 : u.heap.size < v1.heap.size := Nat.lt_of_lt_of_le zR gA.size
    cases o
    · obtain ⟨c0, c1, c2, c3, f0, f1, f2, f3⟩ := IG1
      obtain ⟨r0, r1, r2, r3, e0, e1, e2, e3⟩ := IR1
      go_wp2
      exact bodyPost_ret (v := .agg #[.int .i64 p, .int .i64 b, .int .i64 255, .int .i64 s]) (by simp [results, Try.results72, go_sem, r0, r1, r2, r3]) rfl
        ⟨_, _, _, _, rfl, by omega, by omega, by omega, by omega, ((((hD1.set (p := ⟨u.heap.size, 0, none⟩) neR hwu _).set (p := ⟨u.heap.size, 1, none⟩) neR hwu _).set (p := ⟨u.heap.size, 2, none⟩) neR hwu _).set (p := ⟨u.heap.size, 3, none⟩) neR hwu _), (grownBy_new (grownBy_new (grownBy_new (grownBy_new gg1 (p := ⟨u.heap.size, 0, none⟩) (Nat.le_refl _) _) (p := ⟨u.heap.size, 1, none⟩) (Nat.le_refl _) _) (p := ⟨u.heap.size, 2, none⟩) (Nat.le_refl _) _) (p := ⟨u.heap.size, 3, none⟩) (Nat.le_refl _) _)⟩
    · go_wp2_with fail
      refine (n_next hD1 3 (by omega)).mono ?_
      rintro e v2 ⟨k, rfl, k0, km, hD2, gB⟩
      have IG2 := IG1.far gB zG1 neG
      have IR2 := IR1.far gB zR1 neR
      have gg2 := grownBy_trans gg1 gB
      have zG2 : u3.heap.size < v2.heap.size := Nat.lt_of_lt_of_le zG1 gB.size
      have zR2 : u.heap.size < v2.heap.size := Nat.lt_of_lt_of_le zR1 gB.size
      have hS2 := hD2.src.lt
      rcases (show k = 0 ∨ k = 1 ∨ k = 2 by omega) with rfl | rfl | rfl
      · go_wp2_with fail
        refine (n_next (hD2.alloc _) 2 (by omega)).mono ?_
        rintro e v3 ⟨j, rfl, j0, jm, hD3, gC⟩
        obtain ⟨x, hx, hm⟩ := pick_cell [-1, 8] hS2 gC j.toNat (by simp; omega)
        have hb := id_prio x hm
        have hj : j < 2 := by omega
        clear hm jm
        have gD := grownBy_trans (World.grownBy_alloc _ _ _) gC
        have IG3 := IG2.far gD zG2 neG
        have IR3 := IR2.far gD zR2 neR
        have gg3 := grownBy_trans gg2 gD
        obtain ⟨c0, c1, c2, c3, f0, f1, f2, f3⟩ := IG3
        obtain ⟨r0, r1, r2, r3, e0, e1, e2, e3⟩ := IR3
        go_wp2
        exact bodyPost_ret (v := .agg #[.int .i64 x, .int .i64 b, .int .i64 255, .int .i64 s]) (by simp [results, Try.results72, go_sem, r0, r1, r2, r3]) rfl
          ⟨_, _, _, _, rfl, by omega, by omega, by omega, by omega, (((((hD3.set (p := ⟨u3.heap.size, _, none⟩) neG wG _).set (p := ⟨u.heap.size, 0, none⟩) neR hwu _).set (p := ⟨u.heap.size, 1, none⟩) neR hwu _).set (p := ⟨u.heap.size, 2, none⟩) neR hwu _).set (p := ⟨u.heap.size, 3, none⟩) neR hwu _), (grownBy_new (grownBy_new (grownBy_new (grownBy_new (grownBy_new gg3 (p := ⟨u3.heap.size, _, none⟩) zuG _) (p := ⟨u.heap.size, 0, none⟩) (Nat.le_refl _) _) (p := ⟨u.heap.size, 1, none⟩) (Nat.le_refl _) _) (p := ⟨u.heap.size, 2, none⟩) (Nat.le_refl _) _) (p := ⟨u.heap.size, 3, none⟩) (Nat.le_refl _) _)⟩
      · go_wp2_with fail
        refine (n_next (hD2.alloc _) 3 (by omega)).mono ?_
        rintro e v3 ⟨j, rfl, j0, jm, hD3, gC⟩
        obtain ⟨x, hx, hm⟩ := pick_cell [-1, 255, 256] hS2 gC j.toNat (by simp; omega)
        have hb := id_src x hm
        have hj : j < 3 := by omega
        clear hm jm
        have gD := grownBy_trans (World.grownBy_alloc _ _ _) gC
        have IG3 := IG2.far gD zG2 neG
        have IR3 := IR2.far gD zR2 neR
        have gg3 := grownBy_trans gg2 gD
        obtain ⟨c0, c1, c2, c3, f0, f1, f2, f3⟩ := IG3
        obtain ⟨r0, r1, r2, r3, e0, e1, e2, e3⟩ := IR3
        go_wp2
        exact bodyPost_ret (v := .agg #[.int .i64 p, .int .i64 b, .int .i64 255, .int .i64 x]) (by simp [results, Try.results72, go_sem, r0, r1, r2, r3]) rfl
          ⟨_, _, _, _, rfl, by omega, by omega, by omega, by omega, (((((hD3.set (p := ⟨u3.heap.size, _, none⟩) neG wG _).set (p := ⟨u.heap.size, 0, none⟩) neR hwu _).set (p := ⟨u.heap.size, 1, none⟩) neR hwu _).set (p := ⟨u.heap.size, 2, none⟩) neR hwu _).set (p := ⟨u.heap.size, 3, none⟩) neR hwu _), (grownBy_new (grownBy_new (grownBy_new (grownBy_new (grownBy_new gg3 (p := ⟨u3.heap.size, _, none⟩) zuG _) (p := ⟨u.heap.size, 0, none⟩) (Nat.le_refl _) _) (p := ⟨u.heap.size, 1, none⟩) (Nat.le_refl _) _) (p := ⟨u.heap.size, 2, none⟩) (Nat.le_refl _) _) (p := ⟨u.heap.size, 3, none⟩) (Nat.le_refl _) _)⟩
      · go_wp2_with fail
        refine (n_next (hD2.alloc _) 3 (by omega)).mono ?_
        rintro e v3 ⟨j, rfl, j0, jm, hD3, gC⟩
        obtain ⟨x, hx, hm⟩ := pick_cell [-1, 0, 256] hS2 gC j.toNat (by simp; omega)
        have hb := id_dest x hm
        have hj : j < 3 := by omega
        clear hm jm
        have gD := grownBy_trans (World.grownBy_alloc _ _ _) gC
        have IG3 := IG2.far gD zG2 neG
        have IR3 := IR2.far gD zR2 neR
        have gg3 := grownBy_trans gg2 gD
        obtain ⟨c0, c1, c2, c3, f0, f1, f2, f3⟩ := IG3
        obtain ⟨r0, r1, r2, r3, e0, e1, e2, e3⟩ := IR3
        go_wp2
        exact bodyPost_ret (v := .agg #[.int .i64 p, .int .i64 b, .int .i64 x, .int .i64 s]) (by simp [results, Try.results72, go_sem, r0, r1, r2, r3]) rfl
          ⟨_, _, _, _, rfl, by omega, by omega, by omega, by omega, (((((hD3.set (p := ⟨u3.heap.size, _, none⟩) neG wG _).set (p := ⟨u.heap.size, 0, none⟩) neR hwu _).set (p := ⟨u.heap.size, 1, none⟩) neR hwu _).set (p := ⟨u.heap.size, 2, none⟩) neR hwu _).set (p := ⟨u.heap.size, 3, none⟩) neR hwu _), (grownBy_new (grownBy_new (grownBy_new (grownBy_new (grownBy_new gg3 (p := ⟨u3.heap.size, _, none⟩) zuG _) (p := ⟨u.heap.size, 0, none⟩) (Nat.le_refl _) _) (p := ⟨u.heap.size, 1, none⟩) (Nat.le_refl _) _) (p := ⟨u.heap.size, 2, none⟩) (Nat.le_refl _) _) (p := ⟨u.heap.size, 3, none⟩) (Nat.le_refl _) _)⟩
end
end Go.Proofs.Ytmfnbbjhaolhgaa
