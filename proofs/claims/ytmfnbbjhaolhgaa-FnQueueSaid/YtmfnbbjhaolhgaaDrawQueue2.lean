/- Drawn Queues, out of their bytes. Nothing that was there is written. -/
import Derived.Test.YtmfnbbjhaolhgaaDrawQueue
namespace Go.Proofs.Ytmfnbbjhaolhgaa
open Go.RowKit Go.Joins
set_option linter.unusedVariables false
section
variable {w u u' : World} {S : Nat} {a : Option Addr} {len cap : Nat} {zs : List Int}
/-- A drawn Queue, out of its bytes. -/
def DrewQueue (w : World) (e : Ending) (w' : World) : Prop :=
  ∃ (a' : Option Addr) (c : Nat) (l : List (Int × ByteArray)), e = .returned (.agg #[.slice a' l.length c]) ∧ l.length ≤ c ∧ CansIn w' a' l ∧ CansOk l ∧ l.length ≤ 17 ∧ Below w.heap.size w w'
set_option maxRecDepth 100000 in
set_option maxHeartbeats 2000000 in
theorem drawTake_any (hr : RowIn w a len zs) (hlen : len ≤ 1048576) (hba : 0 < len → ∀ b o, a = some ⟨b, o, none⟩ → b < w.heap.size) :
    Calls Try.prog 10 #[.slice a len cap] w (DrewQueue w) := by
  have hb0 := (Below.refl w.heap.size w).alloc (Nat.le_refl _) (.cells #[.slice none 0 0] 25)
  have HR0 := Lib.hid (RowAt.new w #[.slice none 0 0] 25)
  have HX := Lib.hid (hr.kept hb0 hba)
  have HB := Lib.hid hb0
  have HBA := Lib.hid hba
  clear hr hba hb0
  go_enter Try.func10, Try.ntmps10
  go_wp2_with fail
  refine (source_next HX.out hlen (fun h b o e => Nat.lt_of_lt_of_le (HBA.out h b o e) HB.out.size)).mono ?_
  rintro e u ⟨rfl, hD⟩
  rw [World.size_alloc] at hD
  have HR1 := Lib.hid (HR0.out.kept hD.below)
  have hs1 := hD.src.lt
  clear HX HBA HR0
  go_wp2_with fail
  refine (queue_next hD).mono ?_
  rintro e u2 ⟨a2, c2, l, rfl, ho2, hk2, hl2, hD2, g2⟩
  have HR2 := HR1.out.far g2 (by simp)
  have r0 := HR2.get 0 _ rfl
  have r1 := HR2.free
  have HB2 := Lib.hid (HB.out.trans (hD2.below.mono (by simp)))
  have HO2 := Lib.hid ho2
  have HK2 := Lib.hid hk2
  clear HR1 HR2 g2 hD hD2 ho2 hk2
  go_wp2
  have ho3 := owns_set_lt HO2.out (p := ⟨w.heap.size, 0, none⟩) (by show w.heap.size < u.heap.size; omega) (.slice a2 l.length c2)
  obtain ⟨a5, c5, he5, hc5, hn5⟩ := NewIn.of_owns ho3
  simp only [Value.slice.injEq, true_and] at he5
  obtain ⟨rfl, rfl⟩ := he5
  exact bodyPost_ret (v := .agg #[.slice a2 l.length c2]) (by simp [results, Try.results10, go_sem, r0]) rfl
    ⟨a2, c2, l, rfl, hc5, hn5.cans, HK2.out, hl2, HB2.out.setCell (by simp) _⟩
end
end Go.Proofs.Ytmfnbbjhaolhgaa
