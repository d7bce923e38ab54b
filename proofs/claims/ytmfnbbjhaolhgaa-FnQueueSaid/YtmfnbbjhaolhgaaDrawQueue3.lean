/- Drawn Queues, out of their bytes. Nothing that was there is written. -/
import Derived.Test.YtmfnbbjhaolhgaaDrawQueue
namespace Go.Proofs.Ytmfnbbjhaolhgaa
open Go.RowKit Go.Joins
set_option linter.unusedVariables false
section
variable {w u u' : World} {S : Nat} {a : Option Addr} {len cap : Nat} {zs : List Int}
/-- A drawn Queue, and a list. -/
def DrewPut (w : World) (e : Ending) (w' : World) : Prop :=
  ∃ (a1 a2 : Option Addr) (c1 c2 : Nat) (q l : List (Int × ByteArray)), e = .returned (.tuple #[.agg #[.slice a1 q.length c1], .slice a2 l.length c2]) ∧ q.length ≤ c1 ∧ CansIn w' a1 q ∧ CansOk q ∧ q.length ≤ 17 ∧ CansIn w' a2 l ∧ CansOk l ∧ l.length ≤ 4 ∧ Below w.heap.size w w'
set_option maxRecDepth 100000 in
set_option maxHeartbeats 2000000 in
theorem drawPut_any (hr : RowIn w a len zs) (hlen : len ≤ 1048576) (hba : 0 < len → ∀ b o, a = some ⟨b, o, none⟩ → b < w.heap.size) :
    Calls Try.prog 8 #[.slice a len cap] w (DrewPut w) := by
  have hb0 := (Below.refl w.heap.size w).alloc (Nat.le_refl _) (.cells #[.slice none 0 0] 25)
  have HR0 := Lib.hid (RowAt.new w #[.slice none 0 0] 25)
  have HX := Lib.hid (hr.kept hb0 hba)
  have HB := Lib.hid hb0
  have HBA := Lib.hid hba
  clear hr hba hb0
  go_enter Try.func8, Try.ntmps8
  go_wp2_with fail
  refine (source_next HX.out hlen (fun h b o e => Nat.lt_of_lt_of_le (HBA.out h b o e) HB.out.size)).mono ?_
  rintro e u ⟨rfl, hD⟩
  rw [World.size_alloc] at hD
  have HR1 := Lib.hid (HR0.out.kept hD.below)
  have hs1 := hD.src.lt
  clear HX HBA HR0
  go_wp2_with fail
  refine (queue_next hD).mono ?_
  rintro e u2 ⟨a2, c2, q, rfl, ho2, hk2, hl2, hD2, g2⟩
  have hz2 := g2.size
  have HR2 := Lib.hid ((HR1.out.far g2 (by simp)).alloc (.cells #[.slice a2 q.length c2] 25))
  have HV2 := Lib.hid (RowAt.new u2 #[.slice a2 q.length c2] 25)
  have HO2 := Lib.hid (World.ownsRow.alloc ho2 (.cells #[.slice a2 q.length c2] 25))
  have HK2 := Lib.hid hk2
  have hD3 := (hD2.alloc (.cells #[.slice a2 q.length c2] 25)).drew
  have v0 := HV2.out.get 0 _ rfl
  have v1 := HV2.out.lt
  clear HR1 g2 hD ho2 hk2 hD2
  go_wp2_with fail
  go_region_with (go_at_call 35; (with_reducible refine (cans_next_own hD3).mono ?_); rintro e u4 ⟨v4, l, rfl, hin4, hok4, hl4, hD4, g4⟩; obtain ⟨a4, c4, rfl⟩ := owns_slice hin4; have r0 := (HR2.out.drew.far g4 (by simp)).get 0 _ rfl; have r1 := (HR2.out.drew.far g4 (by simp)).free; have v2 := (HV2.out.drew.far g4 (by simp; omega)).get 0 _ rfl)
  all_goals
    have ho4 := owns_set_lt (ownsRow_far (owns_below HO2.out (Below.refl _ _).drew) g4 hs1) (p := ⟨w.heap.size, 0, none⟩) (by show w.heap.size < u.heap.size; omega) (.slice a2 q.length c2)
    obtain ⟨a5, c5, he5, hc5, hn5⟩ := NewIn.of_owns ho4
    simp only [Value.slice.injEq, true_and] at he5
    obtain ⟨rfl, rfl⟩ := he5
    have hl5 := owns_set_lt hin4 (p := ⟨w.heap.size, 0, none⟩) (by show w.heap.size < (u2.alloc _).heap.size; simp; omega) (.slice a2 q.length c2)
    rw [canCells_eq] at hl5
    obtain ⟨a6, c6, he6, hc6, hn6⟩ := NewIn.of_owns hl5
    simp only [Value.slice.injEq, true_and] at he6
    obtain ⟨rfl, rfl⟩ := he6
    have hin5 := Lib.hid hn6.cans
    have b4 := (HB.out.trans (hD4.below.mono (by simp))).setCell (p := ⟨w.heap.size, 0, none⟩) (Nat.le_refl _) (.slice a2 q.length c2)
    have HK4 := Lib.hid hok4
    have HN5 := Lib.hid hn5
    clear ho4 hD4 hD3 g4 hin4 hok4 hn5 hl5 hn6
    go_wp2
    exact bodyPost_ret (v := .tuple #[.agg #[.slice a2 q.length c2], .slice a4 l.length c4]) (by simp [results, Try.results8, go_sem, r0]) rfl
      ⟨a2, a4, c2, c4, q, l, rfl, hc5, HN5.out.cans, HK2.out, hl2, hin5.out, HK4.out, hl4, b4⟩
/-- A drawn Queue, and a Src. -/
def DrewClear (w : World) (e : Ending) (w' : World) : Prop :=
  ∃ (a1 : Option Addr) (c1 : Nat) (q : List (Int × ByteArray)) (src : Int), e = .returned (.tuple #[.agg #[.slice a1 q.length c1], .int .i64 src]) ∧ q.length ≤ c1 ∧ CansIn w' a1 q ∧ CansOk q ∧ q.length ≤ 17 ∧ Below w.heap.size w w'
set_option maxRecDepth 100000 in
set_option maxHeartbeats 2000000 in
theorem drawClear_any (hr : RowIn w a len zs) (hlen : len ≤ 1048576) (hba : 0 < len → ∀ b o, a = some ⟨b, o, none⟩ → b < w.heap.size) :
    Calls Try.prog 12 #[.slice a len cap] w (DrewClear w) := by
  have hb0 := (Below.refl w.heap.size w).alloc (Nat.le_refl _) (.cells #[.slice none 0 0] 25)
  have HR0 := Lib.hid (RowAt.new w #[.slice none 0 0] 25)
  have HX := Lib.hid (hr.kept hb0 hba)
  have HB := Lib.hid hb0
  have HBA := Lib.hid hba
  clear hr hba hb0
  go_enter Try.func12, Try.ntmps12
  go_wp2_with fail
  refine (source_next HX.out hlen (fun h b o e => Nat.lt_of_lt_of_le (HBA.out h b o e) HB.out.size)).mono ?_
  rintro e u ⟨rfl, hD⟩
  rw [World.size_alloc] at hD
  have HR1 := Lib.hid (HR0.out.kept hD.below)
  have hs1 := hD.src.lt
  clear HX HBA HR0
  go_wp2_with fail
  refine (queue_next hD).mono ?_
  rintro e u2 ⟨a2, c2, q, rfl, ho2, hk2, hl2, hD2, g2⟩
  have hz2 := g2.size
  have HR2 := Lib.hid ((HR1.out.far g2 (by simp)).alloc (.cells #[.slice a2 q.length c2] 25))
  have HV2 := Lib.hid (RowAt.new u2 #[.slice a2 q.length c2] 25)
  have HO2 := Lib.hid (World.ownsRow.alloc ho2 (.cells #[.slice a2 q.length c2] 25))
  have HK2 := Lib.hid hk2
  have hD3 := (hD2.alloc (.cells #[.slice a2 q.length c2] 25)).drew
  have v0 := HV2.out.get 0 _ rfl
  have v1 := HV2.out.lt
  clear HR1 g2 hD ho2 hk2 hD2
  go_wp2_with fail
  go_region_with (go_at_call 45; (with_reducible refine (n_next hD3 6 (by decide)).mono ?_); rintro e u4 ⟨x, rfl, x0, xm, hD4, g4⟩; have hwx : IntKind.i64.wrap (x - 1) = x - 1 := IntWalk.i64_in _ (by omega); clear xm; have r0 := (HR2.out.drew.far g4 (by simp)).get 0 _ rfl; have r1 := (HR2.out.drew.far g4 (by simp)).free; have v2 := (HV2.out.drew.far g4 (by simp; omega)).get 0 _ rfl)
  all_goals
    have ho4 := owns_set_lt (ownsRow_far (owns_below HO2.out (Below.refl _ _).drew) g4 hs1) (p := ⟨w.heap.size, 0, none⟩) (by show w.heap.size < u.heap.size; omega) (.slice a2 q.length c2)
    obtain ⟨a5, c5, he5, hc5, hn5⟩ := NewIn.of_owns ho4
    simp only [Value.slice.injEq, true_and] at he5
    obtain ⟨rfl, rfl⟩ := he5
    have b4 := (HB.out.trans (hD4.below.mono (by simp))).setCell (p := ⟨w.heap.size, 0, none⟩) (Nat.le_refl _) (.slice a2 q.length c2)
    have HN5 := Lib.hid hn5
    clear ho4 hD4 hD3 g4 hn5
    go_wp2
    exact bodyPost_ret (v := .tuple #[.agg #[.slice a2 q.length c2], .int .i64 (x - 1)]) (by simp [results, Try.results12, go_sem, r0]) rfl
      ⟨a2, c2, q, x - 1, rfl, hc5, HN5.out.cans, HK2.out, hl2, b4⟩
end
end Go.Proofs.Ytmfnbbjhaolhgaa
