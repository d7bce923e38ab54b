/- A new Claim, and a tick of one: the model's. Nothing that was there is written. -/
import Derived.Test.YtioldepgoodipaaGreatClaimRight
namespace Go.Proofs.YtioldepgoodipaaGreat
open Go.RowKit
set_option linter.unusedVariables false

/-- A Claim, whether it is to be sent, and a code, as a value. -/
def clOutV (n : Nm) (ad st lf : Int) (v : Value) (s : Bool) (c : Int) : Value := .agg #[.int .i64 n.u, .int .i64 n.m, .int .i64 n.i, .int .i64 n.f, .int .i64 n.c, .int .i64 n.s, .int .i64 n.y, .bool n.a, .int .i64 ad, .int .i64 st, .int .i64 lf, v, .bool s, .int .i64 c]
/-- What ClaimNew answers. -/
def clNewV (n : Nm) (want : Int) : Value := if (okB n && inB 0 251 want) = true then clOutV n want 1 250 (.slice none 0 0) true 0 else clOutV ⟨0, 0, 0, 0, 0, 0, 0, false⟩ 0 0 0 (.slice none 0 0) false 1

end Go.Proofs.YtioldepgoodipaaGreat
