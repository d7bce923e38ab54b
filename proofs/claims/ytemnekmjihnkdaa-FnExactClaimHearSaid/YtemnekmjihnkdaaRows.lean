/-
  No cell of these rows narrows 'for every input' (looked for: loops, veiled, ifaces, maps, wideKeys, modest, calm, conditions, laid).
  DERIVED. THE GIVEN ROWS OF THIS SEAT. 6 by the template 'for every input the law returns true; each argument reads behind the call as it read before'; 0 by the template 'total and deterministic' (their statements: YtemnekmjihnkdaaTotals.lean).
  GIVEN WITH THE SEED: the statements are not yours to turn. If you find one false, say at which input.
  Laid BY PROGRAM, IN A SANDBOX (cutbox-rows.mjs): the forced cells as the released guide's own fill.sh prints them over the translation a0b5cc075fc9811f… (all of the seat's roots in one cut). By AI agents, Wed Nov 11 2026. No macro, syntax, notation, axiom, sorry.
-/
import Derived.Test.YtemnekmjihnkdaaChecked
import GoSem.Claim
import GoSem.ClaimJoined
import GoSem.ClaimMapViews
import Derived.JoinedTies
import Derived.KernelRfl
namespace Go.Proofs.Ytemnekmjihnkdaa
/- THE CELL 'sum', in the pinned program and in every row, IS THE sha256 OF THE DUMP (.gsa) THAT YtemnekmjihnkdaaProg.lean LOADS. Nothing in Lean hashes anything: it is a label: what it is worth is what the hold of that sum in a sandbox is worth. -/
noncomputable def Try.pinned : Pinned := { name := "ytemnekmjihnkdaa", sum := "a0b5cc075fc9811fd532454bff7c9c596f5447dee21c2d718f0e6bcdaf8dabe2", checked := Try.checked }
namespace Rows
def none {H : Type} : Left H := { results := [], args := [] }

/-- 'laws.FnClaim': WHATEVER THE INPUT: true; the input reads as it did. -/
def fnClaimSpec : ChangeSpec := { name := "fnClaim", fn := fun _ => fun
  | [d1, d2] => { results := [.lit (.bool true)], args := [d1, d2] }
  | _ => none }
def fnClaimRow : OpenClaim := { program := "ytemnekmjihnkdaa", sum := "a0b5cc075fc9811fd532454bff7c9c596f5447dee21c2d718f0e6bcdaf8dabe2", func := "loop.example/g00628/laws.FnClaim", spec := "fnClaim", inPlace := ["slices.overlaps[int64]"], apart := false }
def FnClaimSaid : Prop := fnClaimRow.holds Try.pinned (OpenSpec.ofChange fnClaimSpec)

/-- ITS FALSE NEIGHBOUR: 'it returns false'. Refute it at one input. -/
def fnClaimWrong : ChangeSpec := { name := "fnClaim", fn := fun _ => fun
  | [d1, d2] => { results := [.lit (.bool false)], args := [d1, d2] }
  | _ => none }
def FnClaimWrongFalsely : Prop := fnClaimRow.holds Try.pinned (OpenSpec.ofChange fnClaimWrong)

/-- 'laws.FnExactClaimRight': WHATEVER THE INPUT: true; the input reads as it did. -/
def fnExactClaimRightSpec : ChangeSpec := { name := "fnExactClaimRight", fn := fun _ => fun
  | [d] => { results := [.lit (.bool true)], args := [d] }
  | _ => none }
def fnExactClaimRightRow : OpenClaim := { program := "ytemnekmjihnkdaa", sum := "a0b5cc075fc9811fd532454bff7c9c596f5447dee21c2d718f0e6bcdaf8dabe2", func := "loop.example/g00628/laws.FnExactClaimRight", spec := "fnExactClaimRight", apart := false }
def FnExactClaimRightSaid : Prop := fnExactClaimRightRow.holds Try.pinned (OpenSpec.ofChange fnExactClaimRightSpec)

/-- ITS FALSE NEIGHBOUR: 'it returns false'. Refute it at one input. -/
def fnExactClaimRightWrong : ChangeSpec := { name := "fnExactClaimRight", fn := fun _ => fun
  | [d] => { results := [.lit (.bool false)], args := [d] }
  | _ => none }
def FnExactClaimRightWrongFalsely : Prop := fnExactClaimRightRow.holds Try.pinned (OpenSpec.ofChange fnExactClaimRightWrong)

/-- 'laws.FnExactClaimNew': WHATEVER THE INPUT: true; the input reads as it did. -/
def fnExactClaimNewSpec : ChangeSpec := { name := "fnExactClaimNew", fn := fun _ => fun
  | [d1, d2] => { results := [.lit (.bool true)], args := [d1, d2] }
  | _ => none }
def fnExactClaimNewRow : OpenClaim := { program := "ytemnekmjihnkdaa", sum := "a0b5cc075fc9811fd532454bff7c9c596f5447dee21c2d718f0e6bcdaf8dabe2", func := "loop.example/g00628/laws.FnExactClaimNew", spec := "fnExactClaimNew", apart := false }
def FnExactClaimNewSaid : Prop := fnExactClaimNewRow.holds Try.pinned (OpenSpec.ofChange fnExactClaimNewSpec)

/-- ITS FALSE NEIGHBOUR: 'it returns false'. Refute it at one input. -/
def fnExactClaimNewWrong : ChangeSpec := { name := "fnExactClaimNew", fn := fun _ => fun
  | [d1, d2] => { results := [.lit (.bool false)], args := [d1, d2] }
  | _ => none }
def FnExactClaimNewWrongFalsely : Prop := fnExactClaimNewRow.holds Try.pinned (OpenSpec.ofChange fnExactClaimNewWrong)

/-- 'laws.FnExactClaimCan': WHATEVER THE INPUT: true; the input reads as it did. -/
def fnExactClaimCanSpec : ChangeSpec := { name := "fnExactClaimCan", fn := fun _ => fun
  | [d] => { results := [.lit (.bool true)], args := [d] }
  | _ => none }
def fnExactClaimCanRow : OpenClaim := { program := "ytemnekmjihnkdaa", sum := "a0b5cc075fc9811fd532454bff7c9c596f5447dee21c2d718f0e6bcdaf8dabe2", func := "loop.example/g00628/laws.FnExactClaimCan", spec := "fnExactClaimCan", apart := false }
def FnExactClaimCanSaid : Prop := fnExactClaimCanRow.holds Try.pinned (OpenSpec.ofChange fnExactClaimCanSpec)

/-- ITS FALSE NEIGHBOUR: 'it returns false'. Refute it at one input. -/
def fnExactClaimCanWrong : ChangeSpec := { name := "fnExactClaimCan", fn := fun _ => fun
  | [d] => { results := [.lit (.bool false)], args := [d] }
  | _ => none }
def FnExactClaimCanWrongFalsely : Prop := fnExactClaimCanRow.holds Try.pinned (OpenSpec.ofChange fnExactClaimCanWrong)

/-- 'laws.FnExactClaimHear': WHATEVER THE INPUT: true; the input reads as it did. -/
def fnExactClaimHearSpec : ChangeSpec := { name := "fnExactClaimHear", fn := fun _ => fun
  | [d1, d2, d3] => { results := [.lit (.bool true)], args := [d1, d2, d3] }
  | _ => none }
def fnExactClaimHearRow : OpenClaim := { program := "ytemnekmjihnkdaa", sum := "a0b5cc075fc9811fd532454bff7c9c596f5447dee21c2d718f0e6bcdaf8dabe2", func := "loop.example/g00628/laws.FnExactClaimHear", spec := "fnExactClaimHear", inPlace := ["slices.overlaps[int64]"], apart := false }
def FnExactClaimHearSaid : Prop := fnExactClaimHearRow.holds Try.pinned (OpenSpec.ofChange fnExactClaimHearSpec)

/-- ITS FALSE NEIGHBOUR: 'it returns false'. Refute it at one input. -/
def fnExactClaimHearWrong : ChangeSpec := { name := "fnExactClaimHear", fn := fun _ => fun
  | [d1, d2, d3] => { results := [.lit (.bool false)], args := [d1, d2, d3] }
  | _ => none }
def FnExactClaimHearWrongFalsely : Prop := fnExactClaimHearRow.holds Try.pinned (OpenSpec.ofChange fnExactClaimHearWrong)

/-- 'laws.FnExactClaimTick': WHATEVER THE INPUT: true; the input reads as it did. -/
def fnExactClaimTickSpec : ChangeSpec := { name := "fnExactClaimTick", fn := fun _ => fun
  | [d] => { results := [.lit (.bool true)], args := [d] }
  | _ => none }
def fnExactClaimTickRow : OpenClaim := { program := "ytemnekmjihnkdaa", sum := "a0b5cc075fc9811fd532454bff7c9c596f5447dee21c2d718f0e6bcdaf8dabe2", func := "loop.example/g00628/laws.FnExactClaimTick", spec := "fnExactClaimTick", apart := false }
def FnExactClaimTickSaid : Prop := fnExactClaimTickRow.holds Try.pinned (OpenSpec.ofChange fnExactClaimTickSpec)

/-- ITS FALSE NEIGHBOUR: 'it returns false'. Refute it at one input. -/
def fnExactClaimTickWrong : ChangeSpec := { name := "fnExactClaimTick", fn := fun _ => fun
  | [d] => { results := [.lit (.bool false)], args := [d] }
  | _ => none }
def FnExactClaimTickWrongFalsely : Prop := fnExactClaimTickRow.holds Try.pinned (OpenSpec.ofChange fnExactClaimTickWrong)

/- THE SECOND FORM. 'bulk': how many values and letters a reading holds, each counted each time it is reached (what is shared counts as often as it is met; a slice's spare places count too). A statement '..UptoSaid' is the law's where the arguments, and the package variables that the reading takes, are together of bulk at most 1048576: NARROWER than '..Said'. Prove '..Said' where nothing that the law and all that it calls make is longer than what came in: it says more and counts as full. Else prove '..UptoSaid'. A law counts once. -/
mutual
def uptoBulk {H : Type} : DataW H → Nat
  | .lit (.string bytes) => bytes.length + 1
  | .lit _ => 1
  | .nil => 1
  | .ptr d => uptoBulk d + 1
  | .slice elems spare => uptoBulkAll elems + uptoBulkAll spare + 1
  | .agg parts => uptoBulkAll parts + 1
  | .iface _ d => uptoBulk d + 1
  | .map entries => uptoBulkEntries entries + 1
  | .held _ => 1
def uptoBulkAll {H : Type} : List (DataW H) → Nat
  | [] => 0
  | d :: r => uptoBulk d + uptoBulkAll r
def uptoBulkEntries {H : Type} : List (Lit × DataW H) → Nat
  | [] => 0
  | x :: r => uptoBulkEntry x + uptoBulkEntries r
def uptoBulkEntry {H : Type} : Lit × DataW H → Nat
  | (.string bytes, d) => bytes.length + uptoBulk d + 1
  | (_, d) => uptoBulk d + 1
 end
def uptoSmall : (H : Type) → List (DataW H) → Bool := fun _ ds => decide (uptoBulkAll ds ≤ 1048576)
def OpenSpec.upto (s : _root_.Go.ChangeSpec) : _root_.Go.OpenSpec := { _root_.Go.OpenSpec.ofChange s with cond := some uptoSmall }

/-- 'laws.FnClaim', WHERE WHAT IT READS IS OF BULK AT MOST 1048576: true; the input reads as it did. -/
def fnClaimUptoRow : OpenClaim := { program := "ytemnekmjihnkdaa", sum := "a0b5cc075fc9811fd532454bff7c9c596f5447dee21c2d718f0e6bcdaf8dabe2", func := "loop.example/g00628/laws.FnClaim", spec := "fnClaim", inPlace := ["slices.overlaps[int64]"], apart := false, narrowed := true }
def FnClaimUptoSaid : Prop := fnClaimUptoRow.holds Try.pinned (OpenSpec.upto fnClaimSpec)

/-- 'laws.FnExactClaimRight', WHERE WHAT IT READS IS OF BULK AT MOST 1048576: true; the input reads as it did. -/
def fnExactClaimRightUptoRow : OpenClaim := { program := "ytemnekmjihnkdaa", sum := "a0b5cc075fc9811fd532454bff7c9c596f5447dee21c2d718f0e6bcdaf8dabe2", func := "loop.example/g00628/laws.FnExactClaimRight", spec := "fnExactClaimRight", apart := false, narrowed := true }
def FnExactClaimRightUptoSaid : Prop := fnExactClaimRightUptoRow.holds Try.pinned (OpenSpec.upto fnExactClaimRightSpec)

/-- 'laws.FnExactClaimNew', WHERE WHAT IT READS IS OF BULK AT MOST 1048576: true; the input reads as it did. -/
def fnExactClaimNewUptoRow : OpenClaim := { program := "ytemnekmjihnkdaa", sum := "a0b5cc075fc9811fd532454bff7c9c596f5447dee21c2d718f0e6bcdaf8dabe2", func := "loop.example/g00628/laws.FnExactClaimNew", spec := "fnExactClaimNew", apart := false, narrowed := true }
def FnExactClaimNewUptoSaid : Prop := fnExactClaimNewUptoRow.holds Try.pinned (OpenSpec.upto fnExactClaimNewSpec)

/-- 'laws.FnExactClaimCan', WHERE WHAT IT READS IS OF BULK AT MOST 1048576: true; the input reads as it did. -/
def fnExactClaimCanUptoRow : OpenClaim := { program := "ytemnekmjihnkdaa", sum := "a0b5cc075fc9811fd532454bff7c9c596f5447dee21c2d718f0e6bcdaf8dabe2", func := "loop.example/g00628/laws.FnExactClaimCan", spec := "fnExactClaimCan", apart := false, narrowed := true }
def FnExactClaimCanUptoSaid : Prop := fnExactClaimCanUptoRow.holds Try.pinned (OpenSpec.upto fnExactClaimCanSpec)

/-- 'laws.FnExactClaimHear', WHERE WHAT IT READS IS OF BULK AT MOST 1048576: true; the input reads as it did. -/
def fnExactClaimHearUptoRow : OpenClaim := { program := "ytemnekmjihnkdaa", sum := "a0b5cc075fc9811fd532454bff7c9c596f5447dee21c2d718f0e6bcdaf8dabe2", func := "loop.example/g00628/laws.FnExactClaimHear", spec := "fnExactClaimHear", inPlace := ["slices.overlaps[int64]"], apart := false, narrowed := true }
def FnExactClaimHearUptoSaid : Prop := fnExactClaimHearUptoRow.holds Try.pinned (OpenSpec.upto fnExactClaimHearSpec)

/-- 'laws.FnExactClaimTick', WHERE WHAT IT READS IS OF BULK AT MOST 1048576: true; the input reads as it did. -/
def fnExactClaimTickUptoRow : OpenClaim := { program := "ytemnekmjihnkdaa", sum := "a0b5cc075fc9811fd532454bff7c9c596f5447dee21c2d718f0e6bcdaf8dabe2", func := "loop.example/g00628/laws.FnExactClaimTick", spec := "fnExactClaimTick", apart := false, narrowed := true }
def FnExactClaimTickUptoSaid : Prop := fnExactClaimTickUptoRow.holds Try.pinned (OpenSpec.upto fnExactClaimTickSpec)

end Rows
end Go.Proofs.Ytemnekmjihnkdaa
