/- What the program's tooLong answers: whether the text has more than 8000 bytes. -/
import Derived.Test.YtdhmcepnmbchkaaOwn
namespace Go.Proofs.Ytdhmcepnmbchkaa
open Go.RowKit
set_option linter.unusedVariables false
end Go.Proofs.Ytdhmcepnmbchkaa
