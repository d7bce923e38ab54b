/- The Name whose bytes a text is: the model's. For every text; nothing that was there is written. -/
import Derived.Test.YtpolpkheaibonaaNameImpl
import Derived.Test.YtpolpkheaibonaaLong
import Derived.Test.YtpolpkheaibonaaConv
import Derived.BigRegion
import Derived.BigQuiet
namespace Go.Proofs.Ytpolpkheaibonaa
open Go.RowKit
set_option linter.unusedVariables false

/-- The number of a text's first four bytes, the lowest first. -/
def lo4 (t : ByteArray) : Int := byteAt t 0 + 256 * byteAt t 1 + 65536 * byteAt t 2 + 16777216 * byteAt t 3
/-- The Name that eight bytes may be of. -/
def readNm (t : ByteArray) : Nm := ⟨lo4 t % 2097152, lo4 t / 2097152, byteAt t 4, byteAt t 5, byteAt t 6 / 2, byteAt t 7 % 16, byteAt t 7 / 16 % 8, decide (128 ≤ byteAt t 7)⟩
/-- A Name and a code, as a value. -/
def nmOutV (n : Nm) (c : Int) : Value := .agg #[.int .i64 n.u, .int .i64 n.m, .int .i64 n.i, .int .i64 n.f, .int .i64 n.c, .int .i64 n.s, .int .i64 n.y, .bool n.a, .int .i64 c]
def nm0 : Nm := ⟨0, 0, 0, 0, 0, 0, 0, false⟩
/-- Those are the bytes of a Name. -/
def fromB (t : ByteArray) : Bool := nmBytes (readNm t) == t.toList
/-- What NameFrom answers. -/
def nameFromV (t : ByteArray) : Value := if 8000 < t.size then nmOutV nm0 2 else if t.size ≠ 8 then nmOutV nm0 3 else if fromB t = true then nmOutV (readNm t) 0 else nmOutV nm0 3
theorem lo4_lo (t : ByteArray) : 0 ≤ lo4 t := by
  unfold lo4
  have h0 := byteAt_lo t 0
  have h1 := byteAt_lo t 1
  have h2 := byteAt_lo t 2
  have h3 := byteAt_lo t 3
  omega
theorem lo4_hi (t : ByteArray) : lo4 t ≤ 4294967295 := by
  unfold lo4
  have h0 := byteAt_hi t 0
  have h1 := byteAt_hi t 1
  have h2 := byteAt_hi t 2
  have h3 := byteAt_hi t 3
  omega

end Go.Proofs.Ytpolpkheaibonaa
