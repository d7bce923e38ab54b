/-
  No cell of these rows narrows 'for every input' (looked for: loops, veiled, ifaces, maps, wideKeys, modest, calm, conditions, laid).
  DERIVED. THE GIVEN ROWS OF THIS SEAT. 9 by the template 'for every input the law returns true; each argument reads behind the call as it read before'; 0 by the template 'total and deterministic' (their statements: YtdodjkocdaghaaaTotals.lean).
  GIVEN WITH THE SEED: the statements are not yours to turn. If you find one false, say at which input.
  Laid BY PROGRAM, IN A SANDBOX (cutbox-rows.mjs): the forced cells as the released guide's own fill.sh prints them over the translation 544b48a19791933e… (all of the seat's roots in one cut). By AI agents, Wed Nov 11 2026. No macro, syntax, notation, axiom, sorry.
-/
import Derived.Test.YtdodjkocdaghaaaChecked
import GoSem.Claim
import GoSem.ClaimJoined
import GoSem.ClaimMapViews
import Derived.JoinedTies
import Derived.KernelRfl
namespace Go.Proofs.Ytdodjkocdaghaaa
/- THE CELL 'sum', in the pinned program and in every row, IS THE sha256 OF THE DUMP (.gsa) THAT YtdodjkocdaghaaaProg.lean LOADS. Nothing in Lean hashes anything: it is a label: what it is worth is what the hold of that sum in a sandbox is worth. -/
noncomputable def Try.pinned : Pinned := { name := "ytdodjkocdaghaaa", sum := "544b48a19791933e646ef49e7a8bef5ed2a0820e2eb1ae3f331c4a123f35696f", checked := Try.checked }
namespace Rows
def none {H : Type} : Left H := { results := [], args := [] }

/-- 'laws.FnCan': WHATEVER THE INPUT: true; the input reads as it did. -/
def fnCanSpec : ChangeSpec := { name := "fnCan", fn := fun _ => fun
  | [d1, d2] => { results := [.lit (.bool true)], args := [d1, d2] }
  | _ => none }
def fnCanRow : OpenClaim := { program := "ytdodjkocdaghaaa", sum := "544b48a19791933e646ef49e7a8bef5ed2a0820e2eb1ae3f331c4a123f35696f", func := "loop.example/g00628/laws.FnCan", spec := "fnCan", apart := false }
def FnCanSaid : Prop := fnCanRow.holds Try.pinned (OpenSpec.ofChange fnCanSpec)

/-- ITS FALSE NEIGHBOUR: 'it returns false'. Refute it at one input. -/
def fnCanWrong : ChangeSpec := { name := "fnCan", fn := fun _ => fun
  | [d1, d2] => { results := [.lit (.bool false)], args := [d1, d2] }
  | _ => none }
def FnCanWrongFalsely : Prop := fnCanRow.holds Try.pinned (OpenSpec.ofChange fnCanWrong)

/-- 'laws.FnExactBroad': WHATEVER THE INPUT: true; the input reads as it did. -/
def fnExactBroadSpec : ChangeSpec := { name := "fnExactBroad", fn := fun _ => fun
  | [d] => { results := [.lit (.bool true)], args := [d] }
  | _ => none }
def fnExactBroadRow : OpenClaim := { program := "ytdodjkocdaghaaa", sum := "544b48a19791933e646ef49e7a8bef5ed2a0820e2eb1ae3f331c4a123f35696f", func := "loop.example/g00628/laws.FnExactBroad", spec := "fnExactBroad", apart := false }
def FnExactBroadSaid : Prop := fnExactBroadRow.holds Try.pinned (OpenSpec.ofChange fnExactBroadSpec)

/-- ITS FALSE NEIGHBOUR: 'it returns false'. Refute it at one input. -/
def fnExactBroadWrong : ChangeSpec := { name := "fnExactBroad", fn := fun _ => fun
  | [d] => { results := [.lit (.bool false)], args := [d] }
  | _ => none }
def FnExactBroadWrongFalsely : Prop := fnExactBroadRow.holds Try.pinned (OpenSpec.ofChange fnExactBroadWrong)

/-- 'laws.FnExactIdRight': WHATEVER THE INPUT: true; the input reads as it did. -/
def fnExactIdRightSpec : ChangeSpec := { name := "fnExactIdRight", fn := fun _ => fun
  | [d] => { results := [.lit (.bool true)], args := [d] }
  | _ => none }
def fnExactIdRightRow : OpenClaim := { program := "ytdodjkocdaghaaa", sum := "544b48a19791933e646ef49e7a8bef5ed2a0820e2eb1ae3f331c4a123f35696f", func := "loop.example/g00628/laws.FnExactIdRight", spec := "fnExactIdRight", apart := false }
def FnExactIdRightSaid : Prop := fnExactIdRightRow.holds Try.pinned (OpenSpec.ofChange fnExactIdRightSpec)

/-- ITS FALSE NEIGHBOUR: 'it returns false'. Refute it at one input. -/
def fnExactIdRightWrong : ChangeSpec := { name := "fnExactIdRight", fn := fun _ => fun
  | [d] => { results := [.lit (.bool false)], args := [d] }
  | _ => none }
def FnExactIdRightWrongFalsely : Prop := fnExactIdRightRow.holds Try.pinned (OpenSpec.ofChange fnExactIdRightWrong)

/-- 'laws.FnExactIdNum': WHATEVER THE INPUT: true; the input reads as it did. -/
def fnExactIdNumSpec : ChangeSpec := { name := "fnExactIdNum", fn := fun _ => fun
  | [d] => { results := [.lit (.bool true)], args := [d] }
  | _ => none }
def fnExactIdNumRow : OpenClaim := { program := "ytdodjkocdaghaaa", sum := "544b48a19791933e646ef49e7a8bef5ed2a0820e2eb1ae3f331c4a123f35696f", func := "loop.example/g00628/laws.FnExactIdNum", spec := "fnExactIdNum", apart := false }
def FnExactIdNumSaid : Prop := fnExactIdNumRow.holds Try.pinned (OpenSpec.ofChange fnExactIdNumSpec)

/-- ITS FALSE NEIGHBOUR: 'it returns false'. Refute it at one input. -/
def fnExactIdNumWrong : ChangeSpec := { name := "fnExactIdNum", fn := fun _ => fun
  | [d] => { results := [.lit (.bool false)], args := [d] }
  | _ => none }
def FnExactIdNumWrongFalsely : Prop := fnExactIdNumRow.holds Try.pinned (OpenSpec.ofChange fnExactIdNumWrong)

/-- 'laws.FnExactIdOf': WHATEVER THE INPUT: true; the input reads as it did. -/
def fnExactIdOfSpec : ChangeSpec := { name := "fnExactIdOf", fn := fun _ => fun
  | [d] => { results := [.lit (.bool true)], args := [d] }
  | _ => none }
def fnExactIdOfRow : OpenClaim := { program := "ytdodjkocdaghaaa", sum := "544b48a19791933e646ef49e7a8bef5ed2a0820e2eb1ae3f331c4a123f35696f", func := "loop.example/g00628/laws.FnExactIdOf", spec := "fnExactIdOf", apart := false }
def FnExactIdOfSaid : Prop := fnExactIdOfRow.holds Try.pinned (OpenSpec.ofChange fnExactIdOfSpec)

/-- ITS FALSE NEIGHBOUR: 'it returns false'. Refute it at one input. -/
def fnExactIdOfWrong : ChangeSpec := { name := "fnExactIdOf", fn := fun _ => fun
  | [d] => { results := [.lit (.bool false)], args := [d] }
  | _ => none }
def FnExactIdOfWrongFalsely : Prop := fnExactIdOfRow.holds Try.pinned (OpenSpec.ofChange fnExactIdOfWrong)

/-- 'laws.FnExactCanRight': WHATEVER THE INPUT: true; the input reads as it did. -/
def fnExactCanRightSpec : ChangeSpec := { name := "fnExactCanRight", fn := fun _ => fun
  | [d] => { results := [.lit (.bool true)], args := [d] }
  | _ => none }
def fnExactCanRightRow : OpenClaim := { program := "ytdodjkocdaghaaa", sum := "544b48a19791933e646ef49e7a8bef5ed2a0820e2eb1ae3f331c4a123f35696f", func := "loop.example/g00628/laws.FnExactCanRight", spec := "fnExactCanRight", apart := false }
def FnExactCanRightSaid : Prop := fnExactCanRightRow.holds Try.pinned (OpenSpec.ofChange fnExactCanRightSpec)

/-- ITS FALSE NEIGHBOUR: 'it returns false'. Refute it at one input. -/
def fnExactCanRightWrong : ChangeSpec := { name := "fnExactCanRight", fn := fun _ => fun
  | [d] => { results := [.lit (.bool false)], args := [d] }
  | _ => none }
def FnExactCanRightWrongFalsely : Prop := fnExactCanRightRow.holds Try.pinned (OpenSpec.ofChange fnExactCanRightWrong)

/-- 'laws.FnExactCanBytes': WHATEVER THE INPUT: true; the input reads as it did. -/
def fnExactCanBytesSpec : ChangeSpec := { name := "fnExactCanBytes", fn := fun _ => fun
  | [d] => { results := [.lit (.bool true)], args := [d] }
  | _ => none }
def fnExactCanBytesRow : OpenClaim := { program := "ytdodjkocdaghaaa", sum := "544b48a19791933e646ef49e7a8bef5ed2a0820e2eb1ae3f331c4a123f35696f", func := "loop.example/g00628/laws.FnExactCanBytes", spec := "fnExactCanBytes", apart := false }
def FnExactCanBytesSaid : Prop := fnExactCanBytesRow.holds Try.pinned (OpenSpec.ofChange fnExactCanBytesSpec)

/-- ITS FALSE NEIGHBOUR: 'it returns false'. Refute it at one input. -/
def fnExactCanBytesWrong : ChangeSpec := { name := "fnExactCanBytes", fn := fun _ => fun
  | [d] => { results := [.lit (.bool false)], args := [d] }
  | _ => none }
def FnExactCanBytesWrongFalsely : Prop := fnExactCanBytesRow.holds Try.pinned (OpenSpec.ofChange fnExactCanBytesWrong)

/-- 'laws.FnExactCanRead': WHATEVER THE INPUT: true; the input reads as it did. -/
def fnExactCanReadSpec : ChangeSpec := { name := "fnExactCanRead", fn := fun _ => fun
  | [d] => { results := [.lit (.bool true)], args := [d] }
  | _ => none }
def fnExactCanReadRow : OpenClaim := { program := "ytdodjkocdaghaaa", sum := "544b48a19791933e646ef49e7a8bef5ed2a0820e2eb1ae3f331c4a123f35696f", func := "loop.example/g00628/laws.FnExactCanRead", spec := "fnExactCanRead", apart := false }
def FnExactCanReadSaid : Prop := fnExactCanReadRow.holds Try.pinned (OpenSpec.ofChange fnExactCanReadSpec)

/-- ITS FALSE NEIGHBOUR: 'it returns false'. Refute it at one input. -/
def fnExactCanReadWrong : ChangeSpec := { name := "fnExactCanRead", fn := fun _ => fun
  | [d] => { results := [.lit (.bool false)], args := [d] }
  | _ => none }
def FnExactCanReadWrongFalsely : Prop := fnExactCanReadRow.holds Try.pinned (OpenSpec.ofChange fnExactCanReadWrong)

/-- 'laws.FnExactFirst': WHATEVER THE INPUT: true; the input reads as it did. -/
def fnExactFirstSpec : ChangeSpec := { name := "fnExactFirst", fn := fun _ => fun
  | [d] => { results := [.lit (.bool true)], args := [d] }
  | _ => none }
def fnExactFirstRow : OpenClaim := { program := "ytdodjkocdaghaaa", sum := "544b48a19791933e646ef49e7a8bef5ed2a0820e2eb1ae3f331c4a123f35696f", func := "loop.example/g00628/laws.FnExactFirst", spec := "fnExactFirst", apart := false }
def FnExactFirstSaid : Prop := fnExactFirstRow.holds Try.pinned (OpenSpec.ofChange fnExactFirstSpec)

/-- ITS FALSE NEIGHBOUR: 'it returns false'. Refute it at one input. -/
def fnExactFirstWrong : ChangeSpec := { name := "fnExactFirst", fn := fun _ => fun
  | [d] => { results := [.lit (.bool false)], args := [d] }
  | _ => none }
def FnExactFirstWrongFalsely : Prop := fnExactFirstRow.holds Try.pinned (OpenSpec.ofChange fnExactFirstWrong)

/- THE SECOND FORM. 'bulk': how many values and letters a reading holds, each counted each time it is reached (what is shared counts as often as it is met; a slice's spare places count too). A statement '..UptoSaid' is the law's where the arguments, and the package variables that the reading takes, are together of bulk at most 1048576: NARROWER than '..Said'. Prove '..Said' where nothing that the law and all that it calls make is longer than what came in: it says more and counts as full. Else prove '..UptoSaid'. A law counts once. -/
mutual
def uptoBulk {H : Type} : DataW H → Nat
  | .lit (.string bytes) => bytes.length + 1
  | .lit _ => 1
  | .nil => 1
  | .ptr d => uptoBulk d + 1
  | .slice elems spare => uptoBulkAll elems + uptoBulkAll spare + 1
  | .agg parts => uptoBulkAll parts + 1
  | .iface _ d => uptoBulk d + 1
  | .map entries => uptoBulkEntries entries + 1
  | .held _ => 1
def uptoBulkAll {H : Type} : List (DataW H) → Nat
  | [] => 0
  | d :: r => uptoBulk d + uptoBulkAll r
def uptoBulkEntries {H : Type} : List (Lit × DataW H) → Nat
  | [] => 0
  | x :: r => uptoBulkEntry x + uptoBulkEntries r
def uptoBulkEntry {H : Type} : Lit × DataW H → Nat
  | (.string bytes, d) => bytes.length + uptoBulk d + 1
  | (_, d) => uptoBulk d + 1
 end
def uptoSmall : (H : Type) → List (DataW H) → Bool := fun _ ds => decide (uptoBulkAll ds ≤ 1048576)
def OpenSpec.upto (s : _root_.Go.ChangeSpec) : _root_.Go.OpenSpec := { _root_.Go.OpenSpec.ofChange s with cond := some uptoSmall }

/-- 'laws.FnCan', WHERE WHAT IT READS IS OF BULK AT MOST 1048576: true; the input reads as it did. -/
def fnCanUptoRow : OpenClaim := { program := "ytdodjkocdaghaaa", sum := "544b48a19791933e646ef49e7a8bef5ed2a0820e2eb1ae3f331c4a123f35696f", func := "loop.example/g00628/laws.FnCan", spec := "fnCan", apart := false, narrowed := true }
def FnCanUptoSaid : Prop := fnCanUptoRow.holds Try.pinned (OpenSpec.upto fnCanSpec)

/-- 'laws.FnExactBroad', WHERE WHAT IT READS IS OF BULK AT MOST 1048576: true; the input reads as it did. -/
def fnExactBroadUptoRow : OpenClaim := { program := "ytdodjkocdaghaaa", sum := "544b48a19791933e646ef49e7a8bef5ed2a0820e2eb1ae3f331c4a123f35696f", func := "loop.example/g00628/laws.FnExactBroad", spec := "fnExactBroad", apart := false, narrowed := true }
def FnExactBroadUptoSaid : Prop := fnExactBroadUptoRow.holds Try.pinned (OpenSpec.upto fnExactBroadSpec)

/-- 'laws.FnExactIdRight', WHERE WHAT IT READS IS OF BULK AT MOST 1048576: true; the input reads as it did. -/
def fnExactIdRightUptoRow : OpenClaim := { program := "ytdodjkocdaghaaa", sum := "544b48a19791933e646ef49e7a8bef5ed2a0820e2eb1ae3f331c4a123f35696f", func := "loop.example/g00628/laws.FnExactIdRight", spec := "fnExactIdRight", apart := false, narrowed := true }
def FnExactIdRightUptoSaid : Prop := fnExactIdRightUptoRow.holds Try.pinned (OpenSpec.upto fnExactIdRightSpec)

/-- 'laws.FnExactIdNum', WHERE WHAT IT READS IS OF BULK AT MOST 1048576: true; the input reads as it did. -/
def fnExactIdNumUptoRow : OpenClaim := { program := "ytdodjkocdaghaaa", sum := "544b48a19791933e646ef49e7a8bef5ed2a0820e2eb1ae3f331c4a123f35696f", func := "loop.example/g00628/laws.FnExactIdNum", spec := "fnExactIdNum", apart := false, narrowed := true }
def FnExactIdNumUptoSaid : Prop := fnExactIdNumUptoRow.holds Try.pinned (OpenSpec.upto fnExactIdNumSpec)

/-- 'laws.FnExactIdOf', WHERE WHAT IT READS IS OF BULK AT MOST 1048576: true; the input reads as it did. -/
def fnExactIdOfUptoRow : OpenClaim := { program := "ytdodjkocdaghaaa", sum := "544b48a19791933e646ef49e7a8bef5ed2a0820e2eb1ae3f331c4a123f35696f", func := "loop.example/g00628/laws.FnExactIdOf", spec := "fnExactIdOf", apart := false, narrowed := true }
def FnExactIdOfUptoSaid : Prop := fnExactIdOfUptoRow.holds Try.pinned (OpenSpec.upto fnExactIdOfSpec)

/-- 'laws.FnExactCanRight', WHERE WHAT IT READS IS OF BULK AT MOST 1048576: true; the input reads as it did. -/
def fnExactCanRightUptoRow : OpenClaim := { program := "ytdodjkocdaghaaa", sum := "544b48a19791933e646ef49e7a8bef5ed2a0820e2eb1ae3f331c4a123f35696f", func := "loop.example/g00628/laws.FnExactCanRight", spec := "fnExactCanRight", apart := false, narrowed := true }
def FnExactCanRightUptoSaid : Prop := fnExactCanRightUptoRow.holds Try.pinned (OpenSpec.upto fnExactCanRightSpec)

/-- 'laws.FnExactCanBytes', WHERE WHAT IT READS IS OF BULK AT MOST 1048576: true; the input reads as it did. -/
def fnExactCanBytesUptoRow : OpenClaim := { program := "ytdodjkocdaghaaa", sum := "544b48a19791933e646ef49e7a8bef5ed2a0820e2eb1ae3f331c4a123f35696f", func := "loop.example/g00628/laws.FnExactCanBytes", spec := "fnExactCanBytes", apart := false, narrowed := true }
def FnExactCanBytesUptoSaid : Prop := fnExactCanBytesUptoRow.holds Try.pinned (OpenSpec.upto fnExactCanBytesSpec)

/-- 'laws.FnExactCanRead', WHERE WHAT IT READS IS OF BULK AT MOST 1048576: true; the input reads as it did. -/
def fnExactCanReadUptoRow : OpenClaim := { program := "ytdodjkocdaghaaa", sum := "544b48a19791933e646ef49e7a8bef5ed2a0820e2eb1ae3f331c4a123f35696f", func := "loop.example/g00628/laws.FnExactCanRead", spec := "fnExactCanRead", apart := false, narrowed := true }
def FnExactCanReadUptoSaid : Prop := fnExactCanReadUptoRow.holds Try.pinned (OpenSpec.upto fnExactCanReadSpec)

/-- 'laws.FnExactFirst', WHERE WHAT IT READS IS OF BULK AT MOST 1048576: true; the input reads as it did. -/
def fnExactFirstUptoRow : OpenClaim := { program := "ytdodjkocdaghaaa", sum := "544b48a19791933e646ef49e7a8bef5ed2a0820e2eb1ae3f331c4a123f35696f", func := "loop.example/g00628/laws.FnExactFirst", spec := "fnExactFirst", apart := false, narrowed := true }
def FnExactFirstUptoSaid : Prop := fnExactFirstUptoRow.holds Try.pinned (OpenSpec.upto fnExactFirstSpec)

end Rows
end Go.Proofs.Ytdodjkocdaghaaa
