/- Drawn groups, Ids and Cans: what the draws leave. Nothing that was there is written, but the source. -/
import Derived.Test.YtanijfmfjabmfaaDrawMore
import Derived.Test.YtanijfmfjabmfaaCanRead
namespace Go.Proofs.Ytanijfmfjabmfaa
open Go.RowKit
set_option linter.unusedVariables false

section
variable {w u u' : World} {S : Nat} {a : Option Addr} {len cap : Nat} {zs : List Int}
/-- A drawn number between two. -/
def NextV (w : World) (S : Nat) (a : Option Addr) (len cap : Nat) (zs : List Int) (lo hi : Int) (u : World) (e : Ending) (u' : World) : Prop :=
  ∃ v : Int, e = .returned (.int .i64 v) ∧ lo ≤ v ∧ v ≤ hi ∧ Dr w S a len cap zs u' ∧ u.grownBy u' (some S)

theorem pgn_odd : ∀ x ∈ ([-1, 0, 61440, 61439, 131071, 131072, 65280] : List Int), -1 ≤ x ∧ x ≤ 131072 := by decide
theorem pgn_even : ∀ x ∈ ([127250, 127488, 128267, 128275, 129025, 130306, 60928, 59904, 126208] : List Int), -1 ≤ x ∧ x ≤ 131072 := by decide
set_option maxHeartbeats 2000000 in
theorem pgn_next (h : Dr w S a len cap zs u) : Calls Try.prog 104 #[.pointer (some ⟨S, 0, none⟩)] u (NextV w S a len cap zs (-1) 131072 u) := by
  have hS := h.src.lt
  go_enter Try.func104, Try.ntmps104
  go_wp2_with fail
  refine (one_next h 12 (by omega)).mono ?_
  rintro e u1 ⟨v1, rfl, h1, g1⟩
  have hS1 := h1.src.lt
  cases v1
  · go_wp2_with fail
    refine (n_next (h1.alloc _) 9 (by omega)).mono ?_
    rintro e u2 ⟨v, rfl, v0, vm, h2, g2⟩
    obtain ⟨x, hx, hm⟩ := pick_cell [127250, 127488, 128267, 128275, 129025, 130306, 60928, 59904, 126208] hS1 g2 v.toNat (by simp; omega)
    have hb := pgn_even x hm
    have hv : v < 9 := by omega
    clear hm vm
    go_wp2
    go_ret
    exact ⟨x, rfl, hb.1, hb.2, h2, grownBy_trans g1 (grownBy_trans (World.grownBy_alloc _ _ _) g2)⟩
  · go_wp2_with fail
    refine (n_next (h1.alloc _) 7 (by omega)).mono ?_
    rintro e u2 ⟨v, rfl, v0, vm, h2, g2⟩
    obtain ⟨x, hx, hm⟩ := pick_cell [-1, 0, 61440, 61439, 131071, 131072, 65280] hS1 g2 v.toNat (by simp; omega)
    have hb := pgn_odd x hm
    have hv : v < 7 := by omega
    clear hm vm
    go_wp2
    go_ret
    exact ⟨x, rfl, hb.1, hb.2, h2, grownBy_trans g1 (grownBy_trans (World.grownBy_alloc _ _ _) g2)⟩
end
end Go.Proofs.Ytanijfmfjabmfaa
