/- Drawn Cans, lists of them, and spoilt texts: what the draws leave. Nothing that was there is written, but the source. -/
import Derived.Test.YtmfnbbjhaolhgaaDrawCan
import Derived.Test.YtmfnbbjhaolhgaaCans
import Derived.Laws.OwnMore
namespace Go.Proofs.Ytmfnbbjhaolhgaa
open Go.RowKit
set_option linter.unusedVariables false

theorem idN_lo (a b d s : Int) : -1 ≤ idN a b d s := by
  unfold idN
  split
  · rename_i h
    obtain ⟨h1, h2, h3, h4⟩ := idB_of h
    rcases h4 with ⟨h4, rfl⟩ | ⟨h4, h5, h6⟩ <;> simp [h4] <;> omega
  · omega
theorem idN_hi (a b d s : Int) : idN a b d s ≤ 536870911 := by
  unfold idN
  split
  · rename_i h
    obtain ⟨h1, h2, h3, h4⟩ := idB_of h
    rcases h4 with ⟨h4, rfl⟩ | ⟨h4, h5, h6⟩ <;> simp [h4] <;> omega
  · omega
/-- The two cells of a Can. -/
def CanCell (w : World) (g : Nat) (n : Int) (s : ByteArray) : Prop :=
  w.cell? ⟨g, 0, none⟩ = some (.int .i64 n) ∧ w.cell? ⟨g, 1, none⟩ = some (.string s) ∧ w.frozen? ⟨g, 0, none⟩ = false ∧ w.frozen? ⟨g, 1, none⟩ = false
theorem CanCell.far {u u' : World} {g : Nat} {n : Int} {s : ByteArray} (h : CanCell u g n s) {S : Nat} (hg : u.grownBy u' (some S)) (hlt : g < u.heap.size) (hne : g ≠ S) : CanCell u' g n s :=
  ⟨(far_cell hg hlt hne 0).1.trans h.1, (far_cell hg hlt hne 1).1.trans h.2.1, (far_cell hg hlt hne 0).2.trans h.2.2.1, (far_cell hg hlt hne 1).2.trans h.2.2.2⟩
theorem CanCell.new (u : World) (n : Int) (s : ByteArray) (T : TypeId) : CanCell (u.alloc (.cells #[.int .i64 n, .string s] T)) u.heap.size n s := by
  refine ⟨?_, ?_, ?_, ?_⟩ <;> simp [go_sem]
theorem CanCell.alloc {u : World} {g : Nat} {n : Int} {s : ByteArray} (h : CanCell u g n s) (hlt : g < u.heap.size) (o : Obj) : CanCell (u.alloc o) g n s :=
  h.far (S := u.heap.size) (World.grownBy_alloc _ _ _) hlt (by omega)
theorem CanCell.setId {u : World} {g : Nat} {n : Int} {s : ByteArray} (h : CanCell u g n s) (x : Int) : CanCell (u.setCell ⟨g, 0, none⟩ (.int .i64 x)) g x s := by
  obtain ⟨h0, h1, f0, f1⟩ := h
  refine ⟨World.cell?_setCell_same _ _ _ h0, ?_, ?_, ?_⟩
  · rw [World.cell?_setCell_other _ _ _ _ (by simp)]; exact h1
  · rw [World.frozen?_setCell]; exact f0
  · rw [World.frozen?_setCell]; exact f1
theorem CanCell.setFar {u : World} {g : Nat} {n : Int} {s : ByteArray} (h : CanCell u g n s) {q : Addr} (hq : q.block ≠ g) (v : Value) : CanCell (u.setCell q v) g n s := by
  obtain ⟨h0, h1, f0, f1⟩ := h
  refine ⟨?_, ?_, ?_, ?_⟩ <;> first
    | (rw [World.frozen?_setCell]; assumption)
    | (rw [World.cell?_setCell_other _ _ _ _ (fun e => hq (by rw [e]))]; assumption)
theorem grown_of_below {w w' : World} {r : Option Nat} (hb : Below w.heap.size w w') : w.grownBy w' r := ⟨hb.os, hb.tape, hb.output, hb.size, fun k hk _ => hb.block k hk⟩

section
variable {w u u' : World} {S : Nat} {a : Option Addr} {len cap : Nat} {zs : List Int}
/-- A drawn Can. -/
def NextCan (w : World) (S : Nat) (a : Option Addr) (len cap : Nat) (zs : List Int) (u : World) (e : Ending) (u' : World) : Prop :=
  ∃ n : Int, ∃ s : ByteArray, e = .returned (.agg #[.int .i64 n, .string s]) ∧ (-1 ≤ n ∧ n ≤ 536870912) ∧ s.size ≤ 9 ∧ Dr w S a len cap zs u' ∧ u.grownBy u' (some S)
theorem can_ids : ∀ x ∈ ([-1, 536870911, 536870912, 0] : List Int), -1 ≤ x ∧ x ≤ 536870912 := by decide
set_option maxHeartbeats 4000000 in
theorem can_next (h : Dr w S a len cap zs u) : Calls Try.prog 61 #[.pointer (some ⟨S, 0, none⟩)] u (NextCan w S a len cap zs u) := by
  have hS := h.src.lt
  have hlo := h.lo
  have hwu := h.below.size
  have neR : u.heap.size ≠ S := by omega
  have IR0 := CanCell.new u 0 ⟨#[]⟩ 29
  go_enter Try.func61, Try.ntmps61
  go_wp2_with fail
  refine (id_next (h.alloc _)).mono ?_
  rintro e u1 ⟨p, b, d, s, rfl, hp, hb, hd, hs, h1, g1⟩
  go_wp2_with fail
  refine (specIdNum_any p b d s _).mono ?_
  rintro e u2 ⟨rfl, hb2⟩
  have hn0 := idN_lo p b d s
  have hn1 := idN_hi p b d s
  generalize idN p b d s = n at *
  have h2 := h1.made hb2
  have g2 := grownBy_trans g1 (grown_of_below hb2)
  clear h1 g1 hb2
  go_wp2_with fail
  refine (n_next h2 9 (by omega)).mono ?_
  rintro e u3 ⟨v, rfl, v0, vm, h3, g3⟩
  go_wp2_with fail
  refine (bytes_next h3 v v0 (by omega)).mono ?_
  rintro e u4 ⟨l, hl, rfl, h4, g4⟩
  obtain ⟨s', hs'⟩ : ∃ s' : ByteArray, s' = ⟨l.toArray⟩ := ⟨_, rfl⟩
  have hsz : s'.size ≤ 9 := by rw [hs']; simp [ByteArray.size]; omega
  rw [← hs']
  clear hs' hl
  have gB := grownBy_trans g2 (grownBy_trans g3 g4)
  have z4 : u.heap.size < u4.heap.size := by have := gB.size; simp at this; omega
  have neG : u4.heap.size ≠ S := by have := h4.src.lt; omega
  have wG : w.heap.size ≤ u4.heap.size := by omega
  have zuG : u.heap.size ≤ u4.heap.size := by omega
  have IR5 := (IR0.far gB (by simp) neR).alloc z4 (.cells #[.int .i64 n, .string s'] 29)
  have IG5 := CanCell.new u4 n s' 29
  have gg5 := grownBy_alloc (grownBy_trans (World.grownBy_alloc _ _ _) gB) (.cells #[.int .i64 n, .string s'] 29)
  have hD5 := h4.alloc (.cells #[.int .i64 n, .string s'] 29)
  have zG5 : u4.heap.size < (u4.alloc (.cells #[.int .i64 n, .string s'] 29)).heap.size := by simp
  have zR5 : u.heap.size < (u4.alloc (.cells #[.int .i64 n, .string s'] 29)).heap.size := by simp; omega
  clear h h2 h3 h4 g2 g3 g4 gB IR0 v0 vm
  go_wp2_with fail
  refine (one_next hD5 15 (by omega)).mono ?_
  rintro e v1 ⟨o, rfl, hD6, g6⟩
  have IG6 := IG5.far g6 zG5 neG
  have IR6 := IR5.far g6 zR5 neR
  have gg6 := grownBy_trans gg5 g6
  have zG6 := Nat.lt_of_lt_of_le zG5 g6.size
  have zR6 := Nat.lt_of_lt_of_le zR5 g6.size
  have hS6 := hD6.src.lt
  clear zG5 zR5 hD5 gg5 IG5 IR5 g6
  cases o
  · go_wp2_with fail
    refine (one_next hD6 25 (by omega)).mono ?_
    rintro e v9 ⟨o, rfl, hD9, g9⟩
    have gg9 := grownBy_trans gg6 g9
    obtain ⟨c0, c1, f0, f1⟩ := IG6.far g9 zG6 neG
    obtain ⟨r0, r1, e0, e1⟩ := IR6.far g9 zR6 neR
    cases o
    · go_wp2
      exact bodyPost_ret (v := .agg #[.int .i64 n, .string s']) (by simp [results, Try.results61, go_sem, r0, r1]) rfl ⟨_, _, rfl, by omega, hsz, ((hD9.set (p := ⟨u.heap.size, 0, none⟩) neR hwu _).set (p := ⟨u.heap.size, 1, none⟩) neR hwu _), (grownBy_new (grownBy_new gg9 (p := ⟨u.heap.size, 0, none⟩) (Nat.le_refl _) _) (p := ⟨u.heap.size, 1, none⟩) (Nat.le_refl _) _)⟩
    · go_wp2
      exact bodyPost_ret (v := .agg #[.int .i64 n, .string ⟨#[49, 50, 51, 52, 53, 54, 55, 56, 57]⟩]) (by simp [results, Try.results61, go_sem, r0, r1]) rfl ⟨_, _, rfl, by omega, by decide, (((hD9.set (p := ⟨u4.heap.size, 1, none⟩) neG wG _).set (p := ⟨u.heap.size, 0, none⟩) neR hwu _).set (p := ⟨u.heap.size, 1, none⟩) neR hwu _), (grownBy_new (grownBy_new (grownBy_new gg9 (p := ⟨u4.heap.size, 1, none⟩) zuG _) (p := ⟨u.heap.size, 0, none⟩) (Nat.le_refl _) _) (p := ⟨u.heap.size, 1, none⟩) (Nat.le_refl _) _)⟩
  · go_wp2_with fail
    refine (n_next (hD6.alloc _) 4 (by omega)).mono ?_
    rintro e v2 ⟨j, rfl, j0, jm, hD7, g7⟩
    obtain ⟨x, hx, hm⟩ := pick_cell [-1, 536870911, 536870912, 0] hS6 g7 j.toNat (by simp; omega)
    have hb := can_ids x hm
    have hj : j < 4 := by omega
    clear hm jm
    have gD := grownBy_trans (World.grownBy_alloc _ _ _) g7
    have IG7 := IG6.far gD zG6 neG
    have IR7 := IR6.far gD zR6 neR
    have zG7 : u4.heap.size < (v2.setCell ⟨u4.heap.size, 0, none⟩ (.int .i64 x)).heap.size := by have := gD.size; simp; omega
    have zR7 : u.heap.size < (v2.setCell ⟨u4.heap.size, 0, none⟩ (.int .i64 x)).heap.size := by have := gD.size; simp; omega
    have IG8 := IG7.setId x
    have IR8 := IR7.setFar (q := ⟨u4.heap.size, 0, none⟩) (by show u4.heap.size ≠ _; omega) (.int .i64 x)
    have hD8 := hD7.set (p := ⟨u4.heap.size, 0, none⟩) neG wG (.int .i64 x)
    have gg8 := grownBy_new (grownBy_trans gg6 gD) (p := ⟨u4.heap.size, 0, none⟩) zuG (.int .i64 x)
    obtain ⟨c0, c1, f0, f1⟩ := IG7
    go_wp2_with fail
    refine (one_next hD8 25 (by omega)).mono ?_
    rintro e v9 ⟨o, rfl, hD9, g9⟩
    have gg9 := grownBy_trans gg8 g9
    obtain ⟨c0, c1, f0, f1⟩ := IG8.far g9 zG7 neG
    obtain ⟨r0, r1, e0, e1⟩ := IR8.far g9 zR7 neR
    cases o
    · go_wp2
      exact bodyPost_ret (v := .agg #[.int .i64 x, .string s']) (by simp [results, Try.results61, go_sem, r0, r1]) rfl ⟨_, _, rfl, by omega, hsz, ((hD9.set (p := ⟨u.heap.size, 0, none⟩) neR hwu _).set (p := ⟨u.heap.size, 1, none⟩) neR hwu _), (grownBy_new (grownBy_new gg9 (p := ⟨u.heap.size, 0, none⟩) (Nat.le_refl _) _) (p := ⟨u.heap.size, 1, none⟩) (Nat.le_refl _) _)⟩
    · go_wp2
      exact bodyPost_ret (v := .agg #[.int .i64 x, .string ⟨#[49, 50, 51, 52, 53, 54, 55, 56, 57]⟩]) (by simp [results, Try.results61, go_sem, r0, r1]) rfl ⟨_, _, rfl, by omega, by decide, (((hD9.set (p := ⟨u4.heap.size, 1, none⟩) neG wG _).set (p := ⟨u.heap.size, 0, none⟩) neR hwu _).set (p := ⟨u.heap.size, 1, none⟩) neR hwu _), (grownBy_new (grownBy_new (grownBy_new gg9 (p := ⟨u4.heap.size, 1, none⟩) zuG _) (p := ⟨u.heap.size, 0, none⟩) (Nat.le_refl _) _) (p := ⟨u.heap.size, 1, none⟩) (Nat.le_refl _) _)⟩
end
end Go.Proofs.Ytmfnbbjhaolhgaa
