/-
  No cell of these rows narrows 'for every input' (looked for: loops, veiled, ifaces, maps, wideKeys, modest, calm, conditions, laid).
  DERIVED. THE GIVEN ROWS OF THIS SEAT. 5 by the template 'for every input the law returns true; each argument reads behind the call as it read before'; 0 by the template 'total and deterministic' (their statements: YtmfnbbjhaolhgaaTotals.lean).
  GIVEN WITH THE SEED: the statements are not yours to turn. If you find one false, say at which input.
  Laid BY PROGRAM, IN A SANDBOX (cutbox-rows.mjs): the forced cells as the released guide's own fill.sh prints them over the translation a723e2b7a66877f6… (all of the seat's roots in one cut). By AI agents, Wed Nov 11 2026. No macro, syntax, notation, axiom, sorry.
-/
import Derived.Test.YtmfnbbjhaolhgaaChecked
import GoSem.Claim
import GoSem.ClaimJoined
import GoSem.ClaimMapViews
import Derived.JoinedTies
import Derived.KernelRfl
namespace Go.Proofs.Ytmfnbbjhaolhgaa
/- THE CELL 'sum', in the pinned program and in every row, IS THE sha256 OF THE DUMP (.gsa) THAT YtmfnbbjhaolhgaaProg.lean LOADS. Nothing in Lean hashes anything: it is a label: what it is worth is what the hold of that sum in a sandbox is worth. -/
noncomputable def Try.pinned : Pinned := { name := "ytmfnbbjhaolhgaa", sum := "a723e2b7a66877f655858e600dc9d9fbfdc8ba706329f69390b1f34d8af3cdb6", checked := Try.checked }
namespace Rows
def none {H : Type} : Left H := { results := [], args := [] }

/-- 'laws.FnQueue': WHATEVER THE INPUT: true; the input reads as it did. -/
def fnQueueSpec : ChangeSpec := { name := "fnQueue", fn := fun _ => fun
  | [d1, d2] => { results := [.lit (.bool true)], args := [d1, d2] }
  | _ => none }
def fnQueueRow : OpenClaim := { program := "ytmfnbbjhaolhgaa", sum := "a723e2b7a66877f655858e600dc9d9fbfdc8ba706329f69390b1f34d8af3cdb6", func := "loop.example/g00628/laws.FnQueue", spec := "fnQueue", unfollowed := true, recurses := true, apart := false }
def FnQueueSaid : Prop := fnQueueRow.holds Try.pinned (OpenSpec.ofChange fnQueueSpec)

/-- ITS FALSE NEIGHBOUR: 'it returns false'. Refute it at one input. -/
def fnQueueWrong : ChangeSpec := { name := "fnQueue", fn := fun _ => fun
  | [d1, d2] => { results := [.lit (.bool false)], args := [d1, d2] }
  | _ => none }
def FnQueueWrongFalsely : Prop := fnQueueRow.holds Try.pinned (OpenSpec.ofChange fnQueueWrong)

/-- 'laws.FnExactQueueRight': WHATEVER THE INPUT: true; the input reads as it did. -/
def fnExactQueueRightSpec : ChangeSpec := { name := "fnExactQueueRight", fn := fun _ => fun
  | [d] => { results := [.lit (.bool true)], args := [d] }
  | _ => none }
def fnExactQueueRightRow : OpenClaim := { program := "ytmfnbbjhaolhgaa", sum := "a723e2b7a66877f655858e600dc9d9fbfdc8ba706329f69390b1f34d8af3cdb6", func := "loop.example/g00628/laws.FnExactQueueRight", spec := "fnExactQueueRight", apart := false }
def FnExactQueueRightSaid : Prop := fnExactQueueRightRow.holds Try.pinned (OpenSpec.ofChange fnExactQueueRightSpec)

/-- ITS FALSE NEIGHBOUR: 'it returns false'. Refute it at one input. -/
def fnExactQueueRightWrong : ChangeSpec := { name := "fnExactQueueRight", fn := fun _ => fun
  | [d] => { results := [.lit (.bool false)], args := [d] }
  | _ => none }
def FnExactQueueRightWrongFalsely : Prop := fnExactQueueRightRow.holds Try.pinned (OpenSpec.ofChange fnExactQueueRightWrong)

/-- 'laws.FnExactQueuePut': WHATEVER THE INPUT: true; the input reads as it did. -/
def fnExactQueuePutSpec : ChangeSpec := { name := "fnExactQueuePut", fn := fun _ => fun
  | [d1, d2] => { results := [.lit (.bool true)], args := [d1, d2] }
  | _ => none }
def fnExactQueuePutRow : OpenClaim := { program := "ytmfnbbjhaolhgaa", sum := "a723e2b7a66877f655858e600dc9d9fbfdc8ba706329f69390b1f34d8af3cdb6", func := "loop.example/g00628/laws.FnExactQueuePut", spec := "fnExactQueuePut", apart := false }
def FnExactQueuePutSaid : Prop := fnExactQueuePutRow.holds Try.pinned (OpenSpec.ofChange fnExactQueuePutSpec)

/-- ITS FALSE NEIGHBOUR: 'it returns false'. Refute it at one input. -/
def fnExactQueuePutWrong : ChangeSpec := { name := "fnExactQueuePut", fn := fun _ => fun
  | [d1, d2] => { results := [.lit (.bool false)], args := [d1, d2] }
  | _ => none }
def FnExactQueuePutWrongFalsely : Prop := fnExactQueuePutRow.holds Try.pinned (OpenSpec.ofChange fnExactQueuePutWrong)

/-- 'laws.FnExactQueueTake': WHATEVER THE INPUT: true; the input reads as it did. -/
def fnExactQueueTakeSpec : ChangeSpec := { name := "fnExactQueueTake", fn := fun _ => fun
  | [d] => { results := [.lit (.bool true)], args := [d] }
  | _ => none }
def fnExactQueueTakeRow : OpenClaim := { program := "ytmfnbbjhaolhgaa", sum := "a723e2b7a66877f655858e600dc9d9fbfdc8ba706329f69390b1f34d8af3cdb6", func := "loop.example/g00628/laws.FnExactQueueTake", spec := "fnExactQueueTake", unfollowed := true, recurses := true, apart := false }
def FnExactQueueTakeSaid : Prop := fnExactQueueTakeRow.holds Try.pinned (OpenSpec.ofChange fnExactQueueTakeSpec)

/-- ITS FALSE NEIGHBOUR: 'it returns false'. Refute it at one input. -/
def fnExactQueueTakeWrong : ChangeSpec := { name := "fnExactQueueTake", fn := fun _ => fun
  | [d] => { results := [.lit (.bool false)], args := [d] }
  | _ => none }
def FnExactQueueTakeWrongFalsely : Prop := fnExactQueueTakeRow.holds Try.pinned (OpenSpec.ofChange fnExactQueueTakeWrong)

/-- 'laws.FnExactQueueClear': WHATEVER THE INPUT: true; the input reads as it did. -/
def fnExactQueueClearSpec : ChangeSpec := { name := "fnExactQueueClear", fn := fun _ => fun
  | [d1, d2] => { results := [.lit (.bool true)], args := [d1, d2] }
  | _ => none }
def fnExactQueueClearRow : OpenClaim := { program := "ytmfnbbjhaolhgaa", sum := "a723e2b7a66877f655858e600dc9d9fbfdc8ba706329f69390b1f34d8af3cdb6", func := "loop.example/g00628/laws.FnExactQueueClear", spec := "fnExactQueueClear", unfollowed := true, recurses := true, apart := false }
def FnExactQueueClearSaid : Prop := fnExactQueueClearRow.holds Try.pinned (OpenSpec.ofChange fnExactQueueClearSpec)

/-- ITS FALSE NEIGHBOUR: 'it returns false'. Refute it at one input. -/
def fnExactQueueClearWrong : ChangeSpec := { name := "fnExactQueueClear", fn := fun _ => fun
  | [d1, d2] => { results := [.lit (.bool false)], args := [d1, d2] }
  | _ => none }
def FnExactQueueClearWrongFalsely : Prop := fnExactQueueClearRow.holds Try.pinned (OpenSpec.ofChange fnExactQueueClearWrong)

/- THE SECOND FORM. 'bulk': how many values and letters a reading holds, each counted each time it is reached (what is shared counts as often as it is met; a slice's spare places count too). A statement '..UptoSaid' is the law's where the arguments, and the package variables that the reading takes, are together of bulk at most 1048576: NARROWER than '..Said'. Prove '..Said' where nothing that the law and all that it calls make is longer than what came in: it says more and counts as full. Else prove '..UptoSaid'. A law counts once. -/
mutual
def uptoBulk {H : Type} : DataW H → Nat
  | .lit (.string bytes) => bytes.length + 1
  | .lit _ => 1
  | .nil => 1
  | .ptr d => uptoBulk d + 1
  | .slice elems spare => uptoBulkAll elems + uptoBulkAll spare + 1
  | .agg parts => uptoBulkAll parts + 1
  | .iface _ d => uptoBulk d + 1
  | .map entries => uptoBulkEntries entries + 1
  | .held _ => 1
def uptoBulkAll {H : Type} : List (DataW H) → Nat
  | [] => 0
  | d :: r => uptoBulk d + uptoBulkAll r
def uptoBulkEntries {H : Type} : List (Lit × DataW H) → Nat
  | [] => 0
  | x :: r => uptoBulkEntry x + uptoBulkEntries r
def uptoBulkEntry {H : Type} : Lit × DataW H → Nat
  | (.string bytes, d) => bytes.length + uptoBulk d + 1
  | (_, d) => uptoBulk d + 1
 end
def uptoSmall : (H : Type) → List (DataW H) → Bool := fun _ ds => decide (uptoBulkAll ds ≤ 1048576)
def OpenSpec.upto (s : _root_.Go.ChangeSpec) : _root_.Go.OpenSpec := { _root_.Go.OpenSpec.ofChange s with cond := some uptoSmall }

/-- 'laws.FnQueue', WHERE WHAT IT READS IS OF BULK AT MOST 1048576: true; the input reads as it did. -/
def fnQueueUptoRow : OpenClaim := { program := "ytmfnbbjhaolhgaa", sum := "a723e2b7a66877f655858e600dc9d9fbfdc8ba706329f69390b1f34d8af3cdb6", func := "loop.example/g00628/laws.FnQueue", spec := "fnQueue", unfollowed := true, recurses := true, apart := false, narrowed := true }
def FnQueueUptoSaid : Prop := fnQueueUptoRow.holds Try.pinned (OpenSpec.upto fnQueueSpec)

/-- 'laws.FnExactQueueRight', WHERE WHAT IT READS IS OF BULK AT MOST 1048576: true; the input reads as it did. -/
def fnExactQueueRightUptoRow : OpenClaim := { program := "ytmfnbbjhaolhgaa", sum := "a723e2b7a66877f655858e600dc9d9fbfdc8ba706329f69390b1f34d8af3cdb6", func := "loop.example/g00628/laws.FnExactQueueRight", spec := "fnExactQueueRight", apart := false, narrowed := true }
def FnExactQueueRightUptoSaid : Prop := fnExactQueueRightUptoRow.holds Try.pinned (OpenSpec.upto fnExactQueueRightSpec)

/-- 'laws.FnExactQueuePut', WHERE WHAT IT READS IS OF BULK AT MOST 1048576: true; the input reads as it did. -/
def fnExactQueuePutUptoRow : OpenClaim := { program := "ytmfnbbjhaolhgaa", sum := "a723e2b7a66877f655858e600dc9d9fbfdc8ba706329f69390b1f34d8af3cdb6", func := "loop.example/g00628/laws.FnExactQueuePut", spec := "fnExactQueuePut", apart := false, narrowed := true }
def FnExactQueuePutUptoSaid : Prop := fnExactQueuePutUptoRow.holds Try.pinned (OpenSpec.upto fnExactQueuePutSpec)

/-- 'laws.FnExactQueueTake', WHERE WHAT IT READS IS OF BULK AT MOST 1048576: true; the input reads as it did. -/
def fnExactQueueTakeUptoRow : OpenClaim := { program := "ytmfnbbjhaolhgaa", sum := "a723e2b7a66877f655858e600dc9d9fbfdc8ba706329f69390b1f34d8af3cdb6", func := "loop.example/g00628/laws.FnExactQueueTake", spec := "fnExactQueueTake", unfollowed := true, recurses := true, apart := false, narrowed := true }
def FnExactQueueTakeUptoSaid : Prop := fnExactQueueTakeUptoRow.holds Try.pinned (OpenSpec.upto fnExactQueueTakeSpec)

/-- 'laws.FnExactQueueClear', WHERE WHAT IT READS IS OF BULK AT MOST 1048576: true; the input reads as it did. -/
def fnExactQueueClearUptoRow : OpenClaim := { program := "ytmfnbbjhaolhgaa", sum := "a723e2b7a66877f655858e600dc9d9fbfdc8ba706329f69390b1f34d8af3cdb6", func := "loop.example/g00628/laws.FnExactQueueClear", spec := "fnExactQueueClear", unfollowed := true, recurses := true, apart := false, narrowed := true }
def FnExactQueueClearUptoSaid : Prop := fnExactQueueClearUptoRow.holds Try.pinned (OpenSpec.upto fnExactQueueClearSpec)

end Rows
end Go.Proofs.Ytmfnbbjhaolhgaa
