/- What PutText answers, the program's and the model's: the number of its bytes and the text behind it, nothing of a text of more than 8000 bytes. For every text; nothing that was there is written. -/
import Derived.Test.YtmimocoeojhjjaaPutNum
import Derived.Test.YtmimocoeojhjjaaJoined
import Derived.Test.YtmimocoeojhjjaaLong
namespace Go.Proofs.Ytmimocoeojhjjaa
open Go.RowKit
set_option linter.unusedVariables false
/-- The bytes of a text behind its length. -/
def putTextB (s : ByteArray) : List UInt8 := if 8000 < s.size then [] else numBytes (s.size : Int) ++ s.data.toList
end Go.Proofs.Ytmimocoeojhjjaa
