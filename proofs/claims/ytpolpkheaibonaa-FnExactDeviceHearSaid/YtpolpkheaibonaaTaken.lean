/- An address more among those that are taken: the model's. Nothing that was there is written. -/
import Derived.Test.YtpolpkheaibonaaNumsTo
import Derived.Test.YtpolpkheaibonaaClaimMath
namespace Go.Proofs.Ytpolpkheaibonaa
open Go.RowKit Go.Joins
set_option linter.unusedVariables false

theorem nums_one (W : World) (x : Int) (T : TypeId) : NumsIn (W.alloc (.cells #[.int .i64 x] T)) (some ⟨W.heap.size, 0, none⟩) [x] := by
  refine .inr ⟨W.heap.size, 0, rfl, by simp, fun i y hy => ?_⟩
  rcases i with _ | i
  · simp at hy
    subst hy
    simp [go_sem]
  · simp at hy
end Go.Proofs.Ytpolpkheaibonaa
