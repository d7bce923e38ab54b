/-
  No cell of these rows narrows 'for every input' (looked for: loops, veiled, ifaces, maps, wideKeys, modest, calm, conditions, laid).
  DERIVED. THE GIVEN ROWS OF THIS SEAT. 6 by the template 'for every input the law returns true; each argument reads behind the call as it read before'; 0 by the template 'total and deterministic' (their statements: YtobphfcdkjhlhaaTotals.lean).
  GIVEN WITH THE SEED: the statements are not yours to turn. If you find one false, say at which input.
  Laid BY PROGRAM, IN A SANDBOX (cutbox-rows.mjs): the forced cells as the released guide's own fill.sh prints them over the translation 806d6cd44e85556d… (all of the seat's roots in one cut). By AI agents, Wed Nov 11 2026. No macro, syntax, notation, axiom, sorry.
-/
import Derived.Test.YtobphfcdkjhlhaaChecked
import GoSem.Claim
import GoSem.ClaimJoined
import GoSem.ClaimMapViews
import Derived.JoinedTies
import Derived.KernelRfl
namespace Go.Proofs.Ytobphfcdkjhlhaa
/- THE CELL 'sum', in the pinned program and in every row, IS THE sha256 OF THE DUMP (.gsa) THAT YtobphfcdkjhlhaaProg.lean LOADS. Nothing in Lean hashes anything: it is a label: what it is worth is what the hold of that sum in a sandbox is worth. -/
noncomputable def Try.pinned : Pinned := { name := "ytobphfcdkjhlhaa", sum := "806d6cd44e85556d10363406c89b209e0d2543b31e39121df878924ca9c7386c", checked := Try.checked }
namespace Rows
def none {H : Type} : Left H := { results := [], args := [] }

/-- 'laws.FnClaim': WHATEVER THE INPUT: true; the input reads as it did. -/
def fnClaimSpec : ChangeSpec := { name := "fnClaim", fn := fun _ => fun
  | [d1, d2] => { results := [.lit (.bool true)], args := [d1, d2] }
  | _ => none }
def fnClaimRow : OpenClaim := { program := "ytobphfcdkjhlhaa", sum := "806d6cd44e85556d10363406c89b209e0d2543b31e39121df878924ca9c7386c", func := "loop.example/g00628/laws.FnClaim", spec := "fnClaim", inPlace := ["slices.overlaps[int64]"], plainKeys := false, apart := false }
def FnClaimSaid : Prop := fnClaimRow.holds Try.pinned (OpenSpec.ofChange fnClaimSpec)

/-- ITS FALSE NEIGHBOUR: 'it returns false'. Refute it at one input. -/
def fnClaimWrong : ChangeSpec := { name := "fnClaim", fn := fun _ => fun
  | [d1, d2] => { results := [.lit (.bool false)], args := [d1, d2] }
  | _ => none }
def FnClaimWrongFalsely : Prop := fnClaimRow.holds Try.pinned (OpenSpec.ofChange fnClaimWrong)

/-- 'laws.FnFast': WHATEVER THE INPUT: true; the input reads as it did. -/
def fnFastSpec : ChangeSpec := { name := "fnFast", fn := fun _ => fun
  | [d1, d2] => { results := [.lit (.bool true)], args := [d1, d2] }
  | _ => none }
def fnFastRow : OpenClaim := { program := "ytobphfcdkjhlhaa", sum := "806d6cd44e85556d10363406c89b209e0d2543b31e39121df878924ca9c7386c", func := "loop.example/g00628/laws.FnFast", spec := "fnFast", unfollowed := true, recurses := true, plainKeys := false, apart := false }
def FnFastSaid : Prop := fnFastRow.holds Try.pinned (OpenSpec.ofChange fnFastSpec)

/-- ITS FALSE NEIGHBOUR: 'it returns false'. Refute it at one input. -/
def fnFastWrong : ChangeSpec := { name := "fnFast", fn := fun _ => fun
  | [d1, d2] => { results := [.lit (.bool false)], args := [d1, d2] }
  | _ => none }
def FnFastWrongFalsely : Prop := fnFastRow.holds Try.pinned (OpenSpec.ofChange fnFastWrong)

/-- 'laws.FnExactFastCut': WHATEVER THE INPUT: true; the input reads as it did. -/
def fnExactFastCutSpec : ChangeSpec := { name := "fnExactFastCut", fn := fun _ => fun
  | [d1, d2] => { results := [.lit (.bool true)], args := [d1, d2] }
  | _ => none }
def fnExactFastCutRow : OpenClaim := { program := "ytobphfcdkjhlhaa", sum := "806d6cd44e85556d10363406c89b209e0d2543b31e39121df878924ca9c7386c", func := "loop.example/g00628/laws.FnExactFastCut", spec := "fnExactFastCut", plainKeys := false, apart := false }
def FnExactFastCutSaid : Prop := fnExactFastCutRow.holds Try.pinned (OpenSpec.ofChange fnExactFastCutSpec)

/-- ITS FALSE NEIGHBOUR: 'it returns false'. Refute it at one input. -/
def fnExactFastCutWrong : ChangeSpec := { name := "fnExactFastCut", fn := fun _ => fun
  | [d1, d2] => { results := [.lit (.bool false)], args := [d1, d2] }
  | _ => none }
def FnExactFastCutWrongFalsely : Prop := fnExactFastCutRow.holds Try.pinned (OpenSpec.ofChange fnExactFastCutWrong)

/-- 'laws.FnExactTableRight': WHATEVER THE INPUT: true; the input reads as it did. -/
def fnExactTableRightSpec : ChangeSpec := { name := "fnExactTableRight", fn := fun _ => fun
  | [d] => { results := [.lit (.bool true)], args := [d] }
  | _ => none }
def fnExactTableRightRow : OpenClaim := { program := "ytobphfcdkjhlhaa", sum := "806d6cd44e85556d10363406c89b209e0d2543b31e39121df878924ca9c7386c", func := "loop.example/g00628/laws.FnExactTableRight", spec := "fnExactTableRight", plainKeys := false, apart := false }
def FnExactTableRightSaid : Prop := fnExactTableRightRow.holds Try.pinned (OpenSpec.ofChange fnExactTableRightSpec)

/-- ITS FALSE NEIGHBOUR: 'it returns false'. Refute it at one input. -/
def fnExactTableRightWrong : ChangeSpec := { name := "fnExactTableRight", fn := fun _ => fun
  | [d] => { results := [.lit (.bool false)], args := [d] }
  | _ => none }
def FnExactTableRightWrongFalsely : Prop := fnExactTableRightRow.holds Try.pinned (OpenSpec.ofChange fnExactTableRightWrong)

/-- 'laws.FnExactFastHear': WHATEVER THE INPUT: true; the input reads as it did. -/
def fnExactFastHearSpec : ChangeSpec := { name := "fnExactFastHear", fn := fun _ => fun
  | [d1, d2, d3, d4] => { results := [.lit (.bool true)], args := [d1, d2, d3, d4] }
  | _ => none }
def fnExactFastHearRow : OpenClaim := { program := "ytobphfcdkjhlhaa", sum := "806d6cd44e85556d10363406c89b209e0d2543b31e39121df878924ca9c7386c", func := "loop.example/g00628/laws.FnExactFastHear", spec := "fnExactFastHear", unfollowed := true, recurses := true, plainKeys := false, apart := false }
def FnExactFastHearSaid : Prop := fnExactFastHearRow.holds Try.pinned (OpenSpec.ofChange fnExactFastHearSpec)

/-- ITS FALSE NEIGHBOUR: 'it returns false'. Refute it at one input. -/
def fnExactFastHearWrong : ChangeSpec := { name := "fnExactFastHear", fn := fun _ => fun
  | [d1, d2, d3, d4] => { results := [.lit (.bool false)], args := [d1, d2, d3, d4] }
  | _ => none }
def FnExactFastHearWrongFalsely : Prop := fnExactFastHearRow.holds Try.pinned (OpenSpec.ofChange fnExactFastHearWrong)

/-- 'laws.FnExactFastTick': WHATEVER THE INPUT: true; the input reads as it did. -/
def fnExactFastTickSpec : ChangeSpec := { name := "fnExactFastTick", fn := fun _ => fun
  | [d] => { results := [.lit (.bool true)], args := [d] }
  | _ => none }
def fnExactFastTickRow : OpenClaim := { program := "ytobphfcdkjhlhaa", sum := "806d6cd44e85556d10363406c89b209e0d2543b31e39121df878924ca9c7386c", func := "loop.example/g00628/laws.FnExactFastTick", spec := "fnExactFastTick", plainKeys := false, apart := false }
def FnExactFastTickSaid : Prop := fnExactFastTickRow.holds Try.pinned (OpenSpec.ofChange fnExactFastTickSpec)

/-- ITS FALSE NEIGHBOUR: 'it returns false'. Refute it at one input. -/
def fnExactFastTickWrong : ChangeSpec := { name := "fnExactFastTick", fn := fun _ => fun
  | [d] => { results := [.lit (.bool false)], args := [d] }
  | _ => none }
def FnExactFastTickWrongFalsely : Prop := fnExactFastTickRow.holds Try.pinned (OpenSpec.ofChange fnExactFastTickWrong)

/- THE SECOND FORM. 'bulk': how many values and letters a reading holds, each counted each time it is reached (what is shared counts as often as it is met; a slice's spare places count too). A statement '..UptoSaid' is the law's where the arguments, and the package variables that the reading takes, are together of bulk at most 1048576: NARROWER than '..Said'. Prove '..Said' where nothing that the law and all that it calls make is longer than what came in: it says more and counts as full. Else prove '..UptoSaid'. A law counts once. -/
mutual
def uptoBulk {H : Type} : DataW H → Nat
  | .lit (.string bytes) => bytes.length + 1
  | .lit _ => 1
  | .nil => 1
  | .ptr d => uptoBulk d + 1
  | .slice elems spare => uptoBulkAll elems + uptoBulkAll spare + 1
  | .agg parts => uptoBulkAll parts + 1
  | .iface _ d => uptoBulk d + 1
  | .map entries => uptoBulkEntries entries + 1
  | .held _ => 1
def uptoBulkAll {H : Type} : List (DataW H) → Nat
  | [] => 0
  | d :: r => uptoBulk d + uptoBulkAll r
def uptoBulkEntries {H : Type} : List (Lit × DataW H) → Nat
  | [] => 0
  | x :: r => uptoBulkEntry x + uptoBulkEntries r
def uptoBulkEntry {H : Type} : Lit × DataW H → Nat
  | (.string bytes, d) => bytes.length + uptoBulk d + 1
  | (_, d) => uptoBulk d + 1
 end
def uptoSmall : (H : Type) → List (DataW H) → Bool := fun _ ds => decide (uptoBulkAll ds ≤ 1048576)
def OpenSpec.upto (s : _root_.Go.ChangeSpec) : _root_.Go.OpenSpec := { _root_.Go.OpenSpec.ofChange s with cond := some uptoSmall }

/-- 'laws.FnClaim', WHERE WHAT IT READS IS OF BULK AT MOST 1048576: true; the input reads as it did. -/
def fnClaimUptoRow : OpenClaim := { program := "ytobphfcdkjhlhaa", sum := "806d6cd44e85556d10363406c89b209e0d2543b31e39121df878924ca9c7386c", func := "loop.example/g00628/laws.FnClaim", spec := "fnClaim", inPlace := ["slices.overlaps[int64]"], plainKeys := false, apart := false, narrowed := true }
def FnClaimUptoSaid : Prop := fnClaimUptoRow.holds Try.pinned (OpenSpec.upto fnClaimSpec)

/-- 'laws.FnFast', WHERE WHAT IT READS IS OF BULK AT MOST 1048576: true; the input reads as it did. -/
def fnFastUptoRow : OpenClaim := { program := "ytobphfcdkjhlhaa", sum := "806d6cd44e85556d10363406c89b209e0d2543b31e39121df878924ca9c7386c", func := "loop.example/g00628/laws.FnFast", spec := "fnFast", unfollowed := true, recurses := true, plainKeys := false, apart := false, narrowed := true }
def FnFastUptoSaid : Prop := fnFastUptoRow.holds Try.pinned (OpenSpec.upto fnFastSpec)

/-- 'laws.FnExactFastCut', WHERE WHAT IT READS IS OF BULK AT MOST 1048576: true; the input reads as it did. -/
def fnExactFastCutUptoRow : OpenClaim := { program := "ytobphfcdkjhlhaa", sum := "806d6cd44e85556d10363406c89b209e0d2543b31e39121df878924ca9c7386c", func := "loop.example/g00628/laws.FnExactFastCut", spec := "fnExactFastCut", plainKeys := false, apart := false, narrowed := true }
def FnExactFastCutUptoSaid : Prop := fnExactFastCutUptoRow.holds Try.pinned (OpenSpec.upto fnExactFastCutSpec)

/-- 'laws.FnExactTableRight', WHERE WHAT IT READS IS OF BULK AT MOST 1048576: true; the input reads as it did. -/
def fnExactTableRightUptoRow : OpenClaim := { program := "ytobphfcdkjhlhaa", sum := "806d6cd44e85556d10363406c89b209e0d2543b31e39121df878924ca9c7386c", func := "loop.example/g00628/laws.FnExactTableRight", spec := "fnExactTableRight", plainKeys := false, apart := false, narrowed := true }
def FnExactTableRightUptoSaid : Prop := fnExactTableRightUptoRow.holds Try.pinned (OpenSpec.upto fnExactTableRightSpec)

/-- 'laws.FnExactFastHear', WHERE WHAT IT READS IS OF BULK AT MOST 1048576: true; the input reads as it did. -/
def fnExactFastHearUptoRow : OpenClaim := { program := "ytobphfcdkjhlhaa", sum := "806d6cd44e85556d10363406c89b209e0d2543b31e39121df878924ca9c7386c", func := "loop.example/g00628/laws.FnExactFastHear", spec := "fnExactFastHear", unfollowed := true, recurses := true, plainKeys := false, apart := false, narrowed := true }
def FnExactFastHearUptoSaid : Prop := fnExactFastHearUptoRow.holds Try.pinned (OpenSpec.upto fnExactFastHearSpec)

/-- 'laws.FnExactFastTick', WHERE WHAT IT READS IS OF BULK AT MOST 1048576: true; the input reads as it did. -/
def fnExactFastTickUptoRow : OpenClaim := { program := "ytobphfcdkjhlhaa", sum := "806d6cd44e85556d10363406c89b209e0d2543b31e39121df878924ca9c7386c", func := "loop.example/g00628/laws.FnExactFastTick", spec := "fnExactFastTick", plainKeys := false, apart := false, narrowed := true }
def FnExactFastTickUptoSaid : Prop := fnExactFastTickUptoRow.holds Try.pinned (OpenSpec.upto fnExactFastTickSpec)

end Rows
end Go.Proofs.Ytobphfcdkjhlhaa
