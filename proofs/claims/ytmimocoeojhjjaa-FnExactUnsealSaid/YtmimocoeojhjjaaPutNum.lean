/- What the model's and the program's PutNum answer: the bytes of the number, seven bits a byte. For every number of 64 bits; nothing that was there is written. -/
import Derived.Test.YtmimocoeojhjjaaOwn
import Derived.Test.YtmimocoeojhjjaaMath
namespace Go.Proofs.Ytmimocoeojhjjaa
open Go.RowKit
set_option linter.unusedVariables false
theorem PutNum.info8 : (Try.prog.info? 5).map (fun i => (i.zero, i.size, i.bytes)) = some (some (.int .u8 0), 1, 1) := by kernel_rfl

theorem PutNum.size8 (W : World) : (sizeOf 5).run Try.prog W = .ok 1 W := by kernel_rfl

end Go.Proofs.Ytmimocoeojhjjaa
