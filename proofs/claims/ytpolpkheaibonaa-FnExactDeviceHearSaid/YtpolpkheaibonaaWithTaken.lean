/- An address more among those that are taken: the program's, and the model's with its answer as numbers. Nothing that was there is written. -/
import Derived.Test.YtpolpkheaibonaaInsert
import Derived.Test.YtpolpkheaibonaaClaimNext
import Derived.Test.YtpolpkheaibonaaTaken
namespace Go.Proofs.Ytpolpkheaibonaa
open Go.RowKit
set_option linter.unusedVariables false

/-- What is taken behind a claim of x. -/
def takenI (l : List Int) (x : Int) : List Int := if inB 0 251 x = true then takeI l x else l
theorem takenI_rise {l : List Int} {x : Int} (h : riseB (-1) l = true) : riseB (-1) (takenI l x) = true := by
  unfold takenI
  split
  · rename_i hi
    have := inB_of hi
    exact takeI_rise h (by omega) this
  · exact h
theorem takenI_len {l : List Int} {x : Int} (h : riseB (-1) l = true) : (takenI l x).length ≤ 252 := by
  have := riseB_len (takenI_rise (x := x) h) (by omega)
  omega
end Go.Proofs.Ytpolpkheaibonaa
