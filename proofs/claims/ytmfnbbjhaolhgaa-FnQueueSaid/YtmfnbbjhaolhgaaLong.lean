/- What the program's tooLong answers: whether the text has more than 8000 bytes. -/
import Derived.Test.YtmfnbbjhaolhgaaOwn
namespace Go.Proofs.Ytmfnbbjhaolhgaa
open Go.RowKit
set_option linter.unusedVariables false
end Go.Proofs.Ytmfnbbjhaolhgaa
