/- A Can that shares no memory with another one: the program's fresh. -/
import Derived.Test.YtmfnbbjhaolhgaaJoined
import Derived.Handy
import Derived.Lib.SmallJoins
import Derived.Deep.RegionHeld3
namespace Go.Proofs.Ytmfnbbjhaolhgaa
open Go.RowKit
set_option linter.unusedVariables false

theorem joined_empty (s : ByteArray) : ByteArray.mk ((⟨#[]⟩ : ByteArray).data.toList ++ s.data.toList).toArray = s := by
  apply ByteArray.ext
  simp

set_option maxHeartbeats 2000000 in
theorem fresh_any (n : Int) (s : ByteArray) (w : World) (hs : s.size ≤ 1000000) :
    Calls Try.prog 44 #[.agg #[.int .i64 n, .string s]] w fun e w' => e = .returned (.agg #[.int .i64 n, .string s]) ∧ Below w.heap.size w w' := by
  have HJ := fun W => Lib.hid (joined_any ⟨#[]⟩ s W (by decide) hs)
  rw [joined_empty] at HJ
  go_enter Try.func44, Try.ntmps44
  go_wp2_with fail
  go_region_with (go_at_call 65; refine (HJ _).out.mono ?_; rintro e w1 ⟨rfl, h1⟩; obtain ⟨c1, f1⟩ := bcell h1; have z1 : w.heap.size < w1.heap.size := (by have := h1.size; simp at this; omega); have z2 : w.heap.size + 1 < w1.heap.size := (by have := h1.size; simp at this; omega))
  all_goals
    go_wp2
    exact bodyPost_ret (v := .agg #[.int .i64 n, .string s]) (by simp [results, Try.results44, go_sem, c1]) rfl
      ⟨rfl, ((((((Below.refl _ _).alloc (Nat.le_refl _) _).alloc (by simp) _).drew).trans (h1.mono (by simp; omega))).setCell (by simp) _).setCell (by simp) _⟩

end Go.Proofs.Ytmfnbbjhaolhgaa
