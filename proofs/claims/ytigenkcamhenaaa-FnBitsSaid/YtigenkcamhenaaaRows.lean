/-
  No cell of these rows narrows 'for every input' (looked for: loops, veiled, ifaces, maps, wideKeys, modest, calm, conditions, laid).
  DERIVED. THE GIVEN ROWS OF THIS SEAT. 12 by the template 'for every input the law returns true; each argument reads behind the call as it read before'; 0 by the template 'total and deterministic' (their statements: YtigenkcamhenaaaTotals.lean).
  GIVEN WITH THE SEED: the statements are not yours to turn. If you find one false, say at which input.
  Laid BY PROGRAM, IN A SANDBOX (cutbox-rows.mjs): the forced cells as the released guide's own fill.sh prints them over the translation 46e2e9286d90a2eb… (all of the seat's roots in one cut). By AI agents, Wed Nov 11 2026. No macro, syntax, notation, axiom, sorry.
-/
import Derived.Test.YtigenkcamhenaaaChecked
import GoSem.Claim
import GoSem.ClaimJoined
import GoSem.ClaimMapViews
import Derived.JoinedTies
import Derived.KernelRfl
namespace Go.Proofs.Ytigenkcamhenaaa
/- THE CELL 'sum', in the pinned program and in every row, IS THE sha256 OF THE DUMP (.gsa) THAT YtigenkcamhenaaaProg.lean LOADS. Nothing in Lean hashes anything: it is a label: what it is worth is what the hold of that sum in a sandbox is worth. -/
noncomputable def Try.pinned : Pinned := { name := "ytigenkcamhenaaa", sum := "46e2e9286d90a2eb6ff59ca8a3e963cb83fdf84f46a221493d28f1280c96b70f", checked := Try.checked }
namespace Rows
def none {H : Type} : Left H := { results := [], args := [] }

/-- 'laws.FnClaim': WHATEVER THE INPUT: true; the input reads as it did. -/
def fnClaimSpec : ChangeSpec := { name := "fnClaim", fn := fun _ => fun
  | [d1, d2] => { results := [.lit (.bool true)], args := [d1, d2] }
  | _ => none }
def fnClaimRow : OpenClaim := { program := "ytigenkcamhenaaa", sum := "46e2e9286d90a2eb6ff59ca8a3e963cb83fdf84f46a221493d28f1280c96b70f", func := "loop.example/g00628/laws.FnClaim", spec := "fnClaim", inPlace := ["slices.overlaps[int64]"], plainKeys := false, apart := false }
def FnClaimSaid : Prop := fnClaimRow.holds Try.pinned (OpenSpec.ofChange fnClaimSpec)

/-- ITS FALSE NEIGHBOUR: 'it returns false'. Refute it at one input. -/
def fnClaimWrong : ChangeSpec := { name := "fnClaim", fn := fun _ => fun
  | [d1, d2] => { results := [.lit (.bool false)], args := [d1, d2] }
  | _ => none }
def FnClaimWrongFalsely : Prop := fnClaimRow.holds Try.pinned (OpenSpec.ofChange fnClaimWrong)

/-- 'laws.FnFast': WHATEVER THE INPUT: true; the input reads as it did. -/
def fnFastSpec : ChangeSpec := { name := "fnFast", fn := fun _ => fun
  | [d1, d2] => { results := [.lit (.bool true)], args := [d1, d2] }
  | _ => none }
def fnFastRow : OpenClaim := { program := "ytigenkcamhenaaa", sum := "46e2e9286d90a2eb6ff59ca8a3e963cb83fdf84f46a221493d28f1280c96b70f", func := "loop.example/g00628/laws.FnFast", spec := "fnFast", unfollowed := true, recurses := true, plainKeys := false, apart := false }
def FnFastSaid : Prop := fnFastRow.holds Try.pinned (OpenSpec.ofChange fnFastSpec)

/-- ITS FALSE NEIGHBOUR: 'it returns false'. Refute it at one input. -/
def fnFastWrong : ChangeSpec := { name := "fnFast", fn := fun _ => fun
  | [d1, d2] => { results := [.lit (.bool false)], args := [d1, d2] }
  | _ => none }
def FnFastWrongFalsely : Prop := fnFastRow.holds Try.pinned (OpenSpec.ofChange fnFastWrong)

/-- 'laws.FnBits': WHATEVER THE INPUT: true; the input reads as it did. -/
def fnBitsSpec : ChangeSpec := { name := "fnBits", fn := fun _ => fun
  | [d1, d2] => { results := [.lit (.bool true)], args := [d1, d2] }
  | _ => none }
def fnBitsRow : OpenClaim := { program := "ytigenkcamhenaaa", sum := "46e2e9286d90a2eb6ff59ca8a3e963cb83fdf84f46a221493d28f1280c96b70f", func := "loop.example/g00628/laws.FnBits", spec := "fnBits", unfollowed := true, recurses := true, plainKeys := false, apart := false }
def FnBitsSaid : Prop := fnBitsRow.holds Try.pinned (OpenSpec.ofChange fnBitsSpec)

/-- ITS FALSE NEIGHBOUR: 'it returns false'. Refute it at one input. -/
def fnBitsWrong : ChangeSpec := { name := "fnBits", fn := fun _ => fun
  | [d1, d2] => { results := [.lit (.bool false)], args := [d1, d2] }
  | _ => none }
def FnBitsWrongFalsely : Prop := fnBitsRow.holds Try.pinned (OpenSpec.ofChange fnBitsWrong)

/-- 'laws.FnExactFastHear': WHATEVER THE INPUT: true; the input reads as it did. -/
def fnExactFastHearSpec : ChangeSpec := { name := "fnExactFastHear", fn := fun _ => fun
  | [d1, d2, d3, d4] => { results := [.lit (.bool true)], args := [d1, d2, d3, d4] }
  | _ => none }
def fnExactFastHearRow : OpenClaim := { program := "ytigenkcamhenaaa", sum := "46e2e9286d90a2eb6ff59ca8a3e963cb83fdf84f46a221493d28f1280c96b70f", func := "loop.example/g00628/laws.FnExactFastHear", spec := "fnExactFastHear", unfollowed := true, recurses := true, plainKeys := false, apart := false }
def FnExactFastHearSaid : Prop := fnExactFastHearRow.holds Try.pinned (OpenSpec.ofChange fnExactFastHearSpec)

/-- ITS FALSE NEIGHBOUR: 'it returns false'. Refute it at one input. -/
def fnExactFastHearWrong : ChangeSpec := { name := "fnExactFastHear", fn := fun _ => fun
  | [d1, d2, d3, d4] => { results := [.lit (.bool false)], args := [d1, d2, d3, d4] }
  | _ => none }
def FnExactFastHearWrongFalsely : Prop := fnExactFastHearRow.holds Try.pinned (OpenSpec.ofChange fnExactFastHearWrong)

/-- 'laws.FnExactFieldRight': WHATEVER THE INPUT: true; the input reads as it did. -/
def fnExactFieldRightSpec : ChangeSpec := { name := "fnExactFieldRight", fn := fun _ => fun
  | [d] => { results := [.lit (.bool true)], args := [d] }
  | _ => none }
def fnExactFieldRightRow : OpenClaim := { program := "ytigenkcamhenaaa", sum := "46e2e9286d90a2eb6ff59ca8a3e963cb83fdf84f46a221493d28f1280c96b70f", func := "loop.example/g00628/laws.FnExactFieldRight", spec := "fnExactFieldRight", plainKeys := false, apart := false }
def FnExactFieldRightSaid : Prop := fnExactFieldRightRow.holds Try.pinned (OpenSpec.ofChange fnExactFieldRightSpec)

/-- ITS FALSE NEIGHBOUR: 'it returns false'. Refute it at one input. -/
def fnExactFieldRightWrong : ChangeSpec := { name := "fnExactFieldRight", fn := fun _ => fun
  | [d] => { results := [.lit (.bool false)], args := [d] }
  | _ => none }
def FnExactFieldRightWrongFalsely : Prop := fnExactFieldRightRow.holds Try.pinned (OpenSpec.ofChange fnExactFieldRightWrong)

/-- 'laws.FnExactGetBits': WHATEVER THE INPUT: true; the input reads as it did. -/
def fnExactGetBitsSpec : ChangeSpec := { name := "fnExactGetBits", fn := fun _ => fun
  | [d1, d2, d3] => { results := [.lit (.bool true)], args := [d1, d2, d3] }
  | _ => none }
def fnExactGetBitsRow : OpenClaim := { program := "ytigenkcamhenaaa", sum := "46e2e9286d90a2eb6ff59ca8a3e963cb83fdf84f46a221493d28f1280c96b70f", func := "loop.example/g00628/laws.FnExactGetBits", spec := "fnExactGetBits", unfollowed := true, recurses := true, plainKeys := false, apart := false }
def FnExactGetBitsSaid : Prop := fnExactGetBitsRow.holds Try.pinned (OpenSpec.ofChange fnExactGetBitsSpec)

/-- ITS FALSE NEIGHBOUR: 'it returns false'. Refute it at one input. -/
def fnExactGetBitsWrong : ChangeSpec := { name := "fnExactGetBits", fn := fun _ => fun
  | [d1, d2, d3] => { results := [.lit (.bool false)], args := [d1, d2, d3] }
  | _ => none }
def FnExactGetBitsWrongFalsely : Prop := fnExactGetBitsRow.holds Try.pinned (OpenSpec.ofChange fnExactGetBitsWrong)

/-- 'laws.FnExactPutBits': WHATEVER THE INPUT: true; the input reads as it did. -/
def fnExactPutBitsSpec : ChangeSpec := { name := "fnExactPutBits", fn := fun _ => fun
  | [d1, d2, d3, d4] => { results := [.lit (.bool true)], args := [d1, d2, d3, d4] }
  | _ => none }
def fnExactPutBitsRow : OpenClaim := { program := "ytigenkcamhenaaa", sum := "46e2e9286d90a2eb6ff59ca8a3e963cb83fdf84f46a221493d28f1280c96b70f", func := "loop.example/g00628/laws.FnExactPutBits", spec := "fnExactPutBits", unfollowed := true, recurses := true, plainKeys := false, apart := false }
def FnExactPutBitsSaid : Prop := fnExactPutBitsRow.holds Try.pinned (OpenSpec.ofChange fnExactPutBitsSpec)

/-- ITS FALSE NEIGHBOUR: 'it returns false'. Refute it at one input. -/
def fnExactPutBitsWrong : ChangeSpec := { name := "fnExactPutBits", fn := fun _ => fun
  | [d1, d2, d3, d4] => { results := [.lit (.bool false)], args := [d1, d2, d3, d4] }
  | _ => none }
def FnExactPutBitsWrongFalsely : Prop := fnExactPutBitsRow.holds Try.pinned (OpenSpec.ofChange fnExactPutBitsWrong)

/-- 'laws.FnExactLowOf': WHATEVER THE INPUT: true; the input reads as it did. -/
def fnExactLowOfSpec : ChangeSpec := { name := "fnExactLowOf", fn := fun _ => fun
  | [d] => { results := [.lit (.bool true)], args := [d] }
  | _ => none }
def fnExactLowOfRow : OpenClaim := { program := "ytigenkcamhenaaa", sum := "46e2e9286d90a2eb6ff59ca8a3e963cb83fdf84f46a221493d28f1280c96b70f", func := "loop.example/g00628/laws.FnExactLowOf", spec := "fnExactLowOf", plainKeys := false, apart := false }
def FnExactLowOfSaid : Prop := fnExactLowOfRow.holds Try.pinned (OpenSpec.ofChange fnExactLowOfSpec)

/-- ITS FALSE NEIGHBOUR: 'it returns false'. Refute it at one input. -/
def fnExactLowOfWrong : ChangeSpec := { name := "fnExactLowOf", fn := fun _ => fun
  | [d] => { results := [.lit (.bool false)], args := [d] }
  | _ => none }
def FnExactLowOfWrongFalsely : Prop := fnExactLowOfRow.holds Try.pinned (OpenSpec.ofChange fnExactLowOfWrong)

/-- 'laws.FnExactHighOf': WHATEVER THE INPUT: true; the input reads as it did. -/
def fnExactHighOfSpec : ChangeSpec := { name := "fnExactHighOf", fn := fun _ => fun
  | [d] => { results := [.lit (.bool true)], args := [d] }
  | _ => none }
def fnExactHighOfRow : OpenClaim := { program := "ytigenkcamhenaaa", sum := "46e2e9286d90a2eb6ff59ca8a3e963cb83fdf84f46a221493d28f1280c96b70f", func := "loop.example/g00628/laws.FnExactHighOf", spec := "fnExactHighOf", plainKeys := false, apart := false }
def FnExactHighOfSaid : Prop := fnExactHighOfRow.holds Try.pinned (OpenSpec.ofChange fnExactHighOfSpec)

/-- ITS FALSE NEIGHBOUR: 'it returns false'. Refute it at one input. -/
def fnExactHighOfWrong : ChangeSpec := { name := "fnExactHighOf", fn := fun _ => fun
  | [d] => { results := [.lit (.bool false)], args := [d] }
  | _ => none }
def FnExactHighOfWrongFalsely : Prop := fnExactHighOfRow.holds Try.pinned (OpenSpec.ofChange fnExactHighOfWrong)

/-- 'laws.FnExactValueRight': WHATEVER THE INPUT: true; the input reads as it did. -/
def fnExactValueRightSpec : ChangeSpec := { name := "fnExactValueRight", fn := fun _ => fun
  | [d1, d2] => { results := [.lit (.bool true)], args := [d1, d2] }
  | _ => none }
def fnExactValueRightRow : OpenClaim := { program := "ytigenkcamhenaaa", sum := "46e2e9286d90a2eb6ff59ca8a3e963cb83fdf84f46a221493d28f1280c96b70f", func := "loop.example/g00628/laws.FnExactValueRight", spec := "fnExactValueRight", plainKeys := false, apart := false }
def FnExactValueRightSaid : Prop := fnExactValueRightRow.holds Try.pinned (OpenSpec.ofChange fnExactValueRightSpec)

/-- ITS FALSE NEIGHBOUR: 'it returns false'. Refute it at one input. -/
def fnExactValueRightWrong : ChangeSpec := { name := "fnExactValueRight", fn := fun _ => fun
  | [d1, d2] => { results := [.lit (.bool false)], args := [d1, d2] }
  | _ => none }
def FnExactValueRightWrongFalsely : Prop := fnExactValueRightRow.holds Try.pinned (OpenSpec.ofChange fnExactValueRightWrong)

/-- 'laws.FnExactFieldGet': WHATEVER THE INPUT: true; the input reads as it did. -/
def fnExactFieldGetSpec : ChangeSpec := { name := "fnExactFieldGet", fn := fun _ => fun
  | [d1, d2] => { results := [.lit (.bool true)], args := [d1, d2] }
  | _ => none }
def fnExactFieldGetRow : OpenClaim := { program := "ytigenkcamhenaaa", sum := "46e2e9286d90a2eb6ff59ca8a3e963cb83fdf84f46a221493d28f1280c96b70f", func := "loop.example/g00628/laws.FnExactFieldGet", spec := "fnExactFieldGet", unfollowed := true, recurses := true, plainKeys := false, apart := false }
def FnExactFieldGetSaid : Prop := fnExactFieldGetRow.holds Try.pinned (OpenSpec.ofChange fnExactFieldGetSpec)

/-- ITS FALSE NEIGHBOUR: 'it returns false'. Refute it at one input. -/
def fnExactFieldGetWrong : ChangeSpec := { name := "fnExactFieldGet", fn := fun _ => fun
  | [d1, d2] => { results := [.lit (.bool false)], args := [d1, d2] }
  | _ => none }
def FnExactFieldGetWrongFalsely : Prop := fnExactFieldGetRow.holds Try.pinned (OpenSpec.ofChange fnExactFieldGetWrong)

/-- 'laws.FnExactFieldPut': WHATEVER THE INPUT: true; the input reads as it did. -/
def fnExactFieldPutSpec : ChangeSpec := { name := "fnExactFieldPut", fn := fun _ => fun
  | [d1, d2, d3] => { results := [.lit (.bool true)], args := [d1, d2, d3] }
  | _ => none }
def fnExactFieldPutRow : OpenClaim := { program := "ytigenkcamhenaaa", sum := "46e2e9286d90a2eb6ff59ca8a3e963cb83fdf84f46a221493d28f1280c96b70f", func := "loop.example/g00628/laws.FnExactFieldPut", spec := "fnExactFieldPut", unfollowed := true, recurses := true, plainKeys := false, apart := false }
def FnExactFieldPutSaid : Prop := fnExactFieldPutRow.holds Try.pinned (OpenSpec.ofChange fnExactFieldPutSpec)

/-- ITS FALSE NEIGHBOUR: 'it returns false'. Refute it at one input. -/
def fnExactFieldPutWrong : ChangeSpec := { name := "fnExactFieldPut", fn := fun _ => fun
  | [d1, d2, d3] => { results := [.lit (.bool false)], args := [d1, d2, d3] }
  | _ => none }
def FnExactFieldPutWrongFalsely : Prop := fnExactFieldPutRow.holds Try.pinned (OpenSpec.ofChange fnExactFieldPutWrong)

/- THE SECOND FORM. 'bulk': how many values and letters a reading holds, each counted each time it is reached (what is shared counts as often as it is met; a slice's spare places count too). A statement '..UptoSaid' is the law's where the arguments, and the package variables that the reading takes, are together of bulk at most 1048576: NARROWER than '..Said'. Prove '..Said' where nothing that the law and all that it calls make is longer than what came in: it says more and counts as full. Else prove '..UptoSaid'. A law counts once. -/
mutual
def uptoBulk {H : Type} : DataW H → Nat
  | .lit (.string bytes) => bytes.length + 1
  | .lit _ => 1
  | .nil => 1
  | .ptr d => uptoBulk d + 1
  | .slice elems spare => uptoBulkAll elems + uptoBulkAll spare + 1
  | .agg parts => uptoBulkAll parts + 1
  | .iface _ d => uptoBulk d + 1
  | .map entries => uptoBulkEntries entries + 1
  | .held _ => 1
def uptoBulkAll {H : Type} : List (DataW H) → Nat
  | [] => 0
  | d :: r => uptoBulk d + uptoBulkAll r
def uptoBulkEntries {H : Type} : List (Lit × DataW H) → Nat
  | [] => 0
  | x :: r => uptoBulkEntry x + uptoBulkEntries r
def uptoBulkEntry {H : Type} : Lit × DataW H → Nat
  | (.string bytes, d) => bytes.length + uptoBulk d + 1
  | (_, d) => uptoBulk d + 1
 end
def uptoSmall : (H : Type) → List (DataW H) → Bool := fun _ ds => decide (uptoBulkAll ds ≤ 1048576)
def OpenSpec.upto (s : _root_.Go.ChangeSpec) : _root_.Go.OpenSpec := { _root_.Go.OpenSpec.ofChange s with cond := some uptoSmall }

/-- 'laws.FnClaim', WHERE WHAT IT READS IS OF BULK AT MOST 1048576: true; the input reads as it did. -/
def fnClaimUptoRow : OpenClaim := { program := "ytigenkcamhenaaa", sum := "46e2e9286d90a2eb6ff59ca8a3e963cb83fdf84f46a221493d28f1280c96b70f", func := "loop.example/g00628/laws.FnClaim", spec := "fnClaim", inPlace := ["slices.overlaps[int64]"], plainKeys := false, apart := false, narrowed := true }
def FnClaimUptoSaid : Prop := fnClaimUptoRow.holds Try.pinned (OpenSpec.upto fnClaimSpec)

/-- 'laws.FnFast', WHERE WHAT IT READS IS OF BULK AT MOST 1048576: true; the input reads as it did. -/
def fnFastUptoRow : OpenClaim := { program := "ytigenkcamhenaaa", sum := "46e2e9286d90a2eb6ff59ca8a3e963cb83fdf84f46a221493d28f1280c96b70f", func := "loop.example/g00628/laws.FnFast", spec := "fnFast", unfollowed := true, recurses := true, plainKeys := false, apart := false, narrowed := true }
def FnFastUptoSaid : Prop := fnFastUptoRow.holds Try.pinned (OpenSpec.upto fnFastSpec)

/-- 'laws.FnBits', WHERE WHAT IT READS IS OF BULK AT MOST 1048576: true; the input reads as it did. -/
def fnBitsUptoRow : OpenClaim := { program := "ytigenkcamhenaaa", sum := "46e2e9286d90a2eb6ff59ca8a3e963cb83fdf84f46a221493d28f1280c96b70f", func := "loop.example/g00628/laws.FnBits", spec := "fnBits", unfollowed := true, recurses := true, plainKeys := false, apart := false, narrowed := true }
def FnBitsUptoSaid : Prop := fnBitsUptoRow.holds Try.pinned (OpenSpec.upto fnBitsSpec)

/-- 'laws.FnExactFastHear', WHERE WHAT IT READS IS OF BULK AT MOST 1048576: true; the input reads as it did. -/
def fnExactFastHearUptoRow : OpenClaim := { program := "ytigenkcamhenaaa", sum := "46e2e9286d90a2eb6ff59ca8a3e963cb83fdf84f46a221493d28f1280c96b70f", func := "loop.example/g00628/laws.FnExactFastHear", spec := "fnExactFastHear", unfollowed := true, recurses := true, plainKeys := false, apart := false, narrowed := true }
def FnExactFastHearUptoSaid : Prop := fnExactFastHearUptoRow.holds Try.pinned (OpenSpec.upto fnExactFastHearSpec)

/-- 'laws.FnExactFieldRight', WHERE WHAT IT READS IS OF BULK AT MOST 1048576: true; the input reads as it did. -/
def fnExactFieldRightUptoRow : OpenClaim := { program := "ytigenkcamhenaaa", sum := "46e2e9286d90a2eb6ff59ca8a3e963cb83fdf84f46a221493d28f1280c96b70f", func := "loop.example/g00628/laws.FnExactFieldRight", spec := "fnExactFieldRight", plainKeys := false, apart := false, narrowed := true }
def FnExactFieldRightUptoSaid : Prop := fnExactFieldRightUptoRow.holds Try.pinned (OpenSpec.upto fnExactFieldRightSpec)

/-- 'laws.FnExactGetBits', WHERE WHAT IT READS IS OF BULK AT MOST 1048576: true; the input reads as it did. -/
def fnExactGetBitsUptoRow : OpenClaim := { program := "ytigenkcamhenaaa", sum := "46e2e9286d90a2eb6ff59ca8a3e963cb83fdf84f46a221493d28f1280c96b70f", func := "loop.example/g00628/laws.FnExactGetBits", spec := "fnExactGetBits", unfollowed := true, recurses := true, plainKeys := false, apart := false, narrowed := true }
def FnExactGetBitsUptoSaid : Prop := fnExactGetBitsUptoRow.holds Try.pinned (OpenSpec.upto fnExactGetBitsSpec)

/-- 'laws.FnExactPutBits', WHERE WHAT IT READS IS OF BULK AT MOST 1048576: true; the input reads as it did. -/
def fnExactPutBitsUptoRow : OpenClaim := { program := "ytigenkcamhenaaa", sum := "46e2e9286d90a2eb6ff59ca8a3e963cb83fdf84f46a221493d28f1280c96b70f", func := "loop.example/g00628/laws.FnExactPutBits", spec := "fnExactPutBits", unfollowed := true, recurses := true, plainKeys := false, apart := false, narrowed := true }
def FnExactPutBitsUptoSaid : Prop := fnExactPutBitsUptoRow.holds Try.pinned (OpenSpec.upto fnExactPutBitsSpec)

/-- 'laws.FnExactLowOf', WHERE WHAT IT READS IS OF BULK AT MOST 1048576: true; the input reads as it did. -/
def fnExactLowOfUptoRow : OpenClaim := { program := "ytigenkcamhenaaa", sum := "46e2e9286d90a2eb6ff59ca8a3e963cb83fdf84f46a221493d28f1280c96b70f", func := "loop.example/g00628/laws.FnExactLowOf", spec := "fnExactLowOf", plainKeys := false, apart := false, narrowed := true }
def FnExactLowOfUptoSaid : Prop := fnExactLowOfUptoRow.holds Try.pinned (OpenSpec.upto fnExactLowOfSpec)

/-- 'laws.FnExactHighOf', WHERE WHAT IT READS IS OF BULK AT MOST 1048576: true; the input reads as it did. -/
def fnExactHighOfUptoRow : OpenClaim := { program := "ytigenkcamhenaaa", sum := "46e2e9286d90a2eb6ff59ca8a3e963cb83fdf84f46a221493d28f1280c96b70f", func := "loop.example/g00628/laws.FnExactHighOf", spec := "fnExactHighOf", plainKeys := false, apart := false, narrowed := true }
def FnExactHighOfUptoSaid : Prop := fnExactHighOfUptoRow.holds Try.pinned (OpenSpec.upto fnExactHighOfSpec)

/-- 'laws.FnExactValueRight', WHERE WHAT IT READS IS OF BULK AT MOST 1048576: true; the input reads as it did. -/
def fnExactValueRightUptoRow : OpenClaim := { program := "ytigenkcamhenaaa", sum := "46e2e9286d90a2eb6ff59ca8a3e963cb83fdf84f46a221493d28f1280c96b70f", func := "loop.example/g00628/laws.FnExactValueRight", spec := "fnExactValueRight", plainKeys := false, apart := false, narrowed := true }
def FnExactValueRightUptoSaid : Prop := fnExactValueRightUptoRow.holds Try.pinned (OpenSpec.upto fnExactValueRightSpec)

/-- 'laws.FnExactFieldGet', WHERE WHAT IT READS IS OF BULK AT MOST 1048576: true; the input reads as it did. -/
def fnExactFieldGetUptoRow : OpenClaim := { program := "ytigenkcamhenaaa", sum := "46e2e9286d90a2eb6ff59ca8a3e963cb83fdf84f46a221493d28f1280c96b70f", func := "loop.example/g00628/laws.FnExactFieldGet", spec := "fnExactFieldGet", unfollowed := true, recurses := true, plainKeys := false, apart := false, narrowed := true }
def FnExactFieldGetUptoSaid : Prop := fnExactFieldGetUptoRow.holds Try.pinned (OpenSpec.upto fnExactFieldGetSpec)

/-- 'laws.FnExactFieldPut', WHERE WHAT IT READS IS OF BULK AT MOST 1048576: true; the input reads as it did. -/
def fnExactFieldPutUptoRow : OpenClaim := { program := "ytigenkcamhenaaa", sum := "46e2e9286d90a2eb6ff59ca8a3e963cb83fdf84f46a221493d28f1280c96b70f", func := "loop.example/g00628/laws.FnExactFieldPut", spec := "fnExactFieldPut", unfollowed := true, recurses := true, plainKeys := false, apart := false, narrowed := true }
def FnExactFieldPutUptoSaid : Prop := fnExactFieldPutUptoRow.holds Try.pinned (OpenSpec.upto fnExactFieldPutSpec)

end Rows
end Go.Proofs.Ytigenkcamhenaaa
