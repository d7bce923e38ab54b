/- A tick of a right Claim: the model's. Nothing that was there is written. -/
import Derived.Test.YtpolpkheaibonaaClaimNew
import Derived.Test.YtpolpkheaibonaaStep
namespace Go.Proofs.Ytpolpkheaibonaa
open Go.RowKit
set_option linter.unusedVariables false

end Go.Proofs.Ytpolpkheaibonaa
