/-
  No cell of these rows narrows 'for every input' (looked for: loops, veiled, ifaces, maps, wideKeys, modest, calm, conditions, laid).
  DERIVED. THE GIVEN ROWS OF THIS SEAT. 9 by the template 'for every input the law returns true; each argument reads behind the call as it read before'; 0 by the template 'total and deterministic' (their statements: YtanijfmfjabmfaaTotals.lean).
  GIVEN WITH THE SEED: the statements are not yours to turn. If you find one false, say at which input.
  Laid BY PROGRAM, IN A SANDBOX (cutbox-rows.mjs): the forced cells as the released guide's own fill.sh prints them over the translation 59ebc8ea528b5b60… (all of the seat's roots in one cut). By AI agents, Wed Nov 11 2026. No macro, syntax, notation, axiom, sorry.
-/
import Derived.Test.YtanijfmfjabmfaaChecked
import GoSem.Claim
import GoSem.ClaimJoined
import GoSem.ClaimMapViews
import Derived.JoinedTies
import Derived.KernelRfl
namespace Go.Proofs.Ytanijfmfjabmfaa
/- THE CELL 'sum', in the pinned program and in every row, IS THE sha256 OF THE DUMP (.gsa) THAT YtanijfmfjabmfaaProg.lean LOADS. Nothing in Lean hashes anything: it is a label: what it is worth is what the hold of that sum in a sandbox is worth. -/
noncomputable def Try.pinned : Pinned := { name := "ytanijfmfjabmfaa", sum := "59ebc8ea528b5b608264fc419d3842c01495a6b72d530fd0c053c22f8e3af4c6", checked := Try.checked }
namespace Rows
def none {H : Type} : Left H := { results := [], args := [] }

/-- 'laws.FnClaim': WHATEVER THE INPUT: true; the input reads as it did. -/
def fnClaimSpec : ChangeSpec := { name := "fnClaim", fn := fun _ => fun
  | [d1, d2] => { results := [.lit (.bool true)], args := [d1, d2] }
  | _ => none }
def fnClaimRow : OpenClaim := { program := "ytanijfmfjabmfaa", sum := "59ebc8ea528b5b608264fc419d3842c01495a6b72d530fd0c053c22f8e3af4c6", func := "loop.example/g00628/laws.FnClaim", spec := "fnClaim", inPlace := ["slices.overlaps[int64]"], plainKeys := false, apart := false }
def FnClaimSaid : Prop := fnClaimRow.holds Try.pinned (OpenSpec.ofChange fnClaimSpec)

/-- ITS FALSE NEIGHBOUR: 'it returns false'. Refute it at one input. -/
def fnClaimWrong : ChangeSpec := { name := "fnClaim", fn := fun _ => fun
  | [d1, d2] => { results := [.lit (.bool false)], args := [d1, d2] }
  | _ => none }
def FnClaimWrongFalsely : Prop := fnClaimRow.holds Try.pinned (OpenSpec.ofChange fnClaimWrong)

/-- 'laws.FnFast': WHATEVER THE INPUT: true; the input reads as it did. -/
def fnFastSpec : ChangeSpec := { name := "fnFast", fn := fun _ => fun
  | [d1, d2] => { results := [.lit (.bool true)], args := [d1, d2] }
  | _ => none }
def fnFastRow : OpenClaim := { program := "ytanijfmfjabmfaa", sum := "59ebc8ea528b5b608264fc419d3842c01495a6b72d530fd0c053c22f8e3af4c6", func := "loop.example/g00628/laws.FnFast", spec := "fnFast", unfollowed := true, recurses := true, plainKeys := false, apart := false }
def FnFastSaid : Prop := fnFastRow.holds Try.pinned (OpenSpec.ofChange fnFastSpec)

/-- ITS FALSE NEIGHBOUR: 'it returns false'. Refute it at one input. -/
def fnFastWrong : ChangeSpec := { name := "fnFast", fn := fun _ => fun
  | [d1, d2] => { results := [.lit (.bool false)], args := [d1, d2] }
  | _ => none }
def FnFastWrongFalsely : Prop := fnFastRow.holds Try.pinned (OpenSpec.ofChange fnFastWrong)

/-- 'laws.FnTable': WHATEVER THE INPUT: true; the input reads as it did. -/
def fnTableSpec : ChangeSpec := { name := "fnTable", fn := fun _ => fun
  | [d1, d2] => { results := [.lit (.bool true)], args := [d1, d2] }
  | _ => none }
def fnTableRow : OpenClaim := { program := "ytanijfmfjabmfaa", sum := "59ebc8ea528b5b608264fc419d3842c01495a6b72d530fd0c053c22f8e3af4c6", func := "loop.example/g00628/laws.FnTable", spec := "fnTable", unfollowed := true, recurses := true, plainKeys := false, apart := false }
def FnTableSaid : Prop := fnTableRow.holds Try.pinned (OpenSpec.ofChange fnTableSpec)

/-- ITS FALSE NEIGHBOUR: 'it returns false'. Refute it at one input. -/
def fnTableWrong : ChangeSpec := { name := "fnTable", fn := fun _ => fun
  | [d1, d2] => { results := [.lit (.bool false)], args := [d1, d2] }
  | _ => none }
def FnTableWrongFalsely : Prop := fnTableRow.holds Try.pinned (OpenSpec.ofChange fnTableWrong)

/-- 'laws.FnExactFastHear': WHATEVER THE INPUT: true; the input reads as it did. -/
def fnExactFastHearSpec : ChangeSpec := { name := "fnExactFastHear", fn := fun _ => fun
  | [d1, d2, d3, d4] => { results := [.lit (.bool true)], args := [d1, d2, d3, d4] }
  | _ => none }
def fnExactFastHearRow : OpenClaim := { program := "ytanijfmfjabmfaa", sum := "59ebc8ea528b5b608264fc419d3842c01495a6b72d530fd0c053c22f8e3af4c6", func := "loop.example/g00628/laws.FnExactFastHear", spec := "fnExactFastHear", unfollowed := true, recurses := true, plainKeys := false, apart := false }
def FnExactFastHearSaid : Prop := fnExactFastHearRow.holds Try.pinned (OpenSpec.ofChange fnExactFastHearSpec)

/-- ITS FALSE NEIGHBOUR: 'it returns false'. Refute it at one input. -/
def fnExactFastHearWrong : ChangeSpec := { name := "fnExactFastHear", fn := fun _ => fun
  | [d1, d2, d3, d4] => { results := [.lit (.bool false)], args := [d1, d2, d3, d4] }
  | _ => none }
def FnExactFastHearWrongFalsely : Prop := fnExactFastHearRow.holds Try.pinned (OpenSpec.ofChange fnExactFastHearWrong)

/-- 'laws.FnExactDefOf': WHATEVER THE INPUT: true; the input reads as it did. -/
def fnExactDefOfSpec : ChangeSpec := { name := "fnExactDefOf", fn := fun _ => fun
  | [d] => { results := [.lit (.bool true)], args := [d] }
  | _ => none }
def fnExactDefOfRow : OpenClaim := { program := "ytanijfmfjabmfaa", sum := "59ebc8ea528b5b608264fc419d3842c01495a6b72d530fd0c053c22f8e3af4c6", func := "loop.example/g00628/laws.FnExactDefOf", spec := "fnExactDefOf", unfollowed := true, recurses := true, plainKeys := false, apart := false }
def FnExactDefOfSaid : Prop := fnExactDefOfRow.holds Try.pinned (OpenSpec.ofChange fnExactDefOfSpec)

/-- ITS FALSE NEIGHBOUR: 'it returns false'. Refute it at one input. -/
def fnExactDefOfWrong : ChangeSpec := { name := "fnExactDefOf", fn := fun _ => fun
  | [d] => { results := [.lit (.bool false)], args := [d] }
  | _ => none }
def FnExactDefOfWrongFalsely : Prop := fnExactDefOfRow.holds Try.pinned (OpenSpec.ofChange fnExactDefOfWrong)

/-- 'laws.FnExactPgns': WHATEVER THE INPUT: true; the input reads as it did. -/
def fnExactPgnsSpec : ChangeSpec := { name := "fnExactPgns", fn := fun _ => fun
  | [] => { results := [.lit (.bool true)], args := [] }
  | _ => none }
def fnExactPgnsRow : OpenClaim := { program := "ytanijfmfjabmfaa", sum := "59ebc8ea528b5b608264fc419d3842c01495a6b72d530fd0c053c22f8e3af4c6", func := "loop.example/g00628/laws.FnExactPgns", spec := "fnExactPgns", plainKeys := false, apart := false }
def FnExactPgnsSaid : Prop := fnExactPgnsRow.holds Try.pinned (OpenSpec.ofChange fnExactPgnsSpec)

/-- ITS FALSE NEIGHBOUR: 'it returns false'. Refute it at one input. -/
def fnExactPgnsWrong : ChangeSpec := { name := "fnExactPgns", fn := fun _ => fun
  | [] => { results := [.lit (.bool false)], args := [] }
  | _ => none }
def FnExactPgnsWrongFalsely : Prop := fnExactPgnsRow.holds Try.pinned (OpenSpec.ofChange fnExactPgnsWrong)

/-- 'laws.FnExactValuesRight': WHATEVER THE INPUT: true; the input reads as it did. -/
def fnExactValuesRightSpec : ChangeSpec := { name := "fnExactValuesRight", fn := fun _ => fun
  | [d1, d2] => { results := [.lit (.bool true)], args := [d1, d2] }
  | _ => none }
def fnExactValuesRightRow : OpenClaim := { program := "ytanijfmfjabmfaa", sum := "59ebc8ea528b5b608264fc419d3842c01495a6b72d530fd0c053c22f8e3af4c6", func := "loop.example/g00628/laws.FnExactValuesRight", spec := "fnExactValuesRight", unfollowed := true, recurses := true, plainKeys := false, apart := false }
def FnExactValuesRightSaid : Prop := fnExactValuesRightRow.holds Try.pinned (OpenSpec.ofChange fnExactValuesRightSpec)

/-- ITS FALSE NEIGHBOUR: 'it returns false'. Refute it at one input. -/
def fnExactValuesRightWrong : ChangeSpec := { name := "fnExactValuesRight", fn := fun _ => fun
  | [d1, d2] => { results := [.lit (.bool false)], args := [d1, d2] }
  | _ => none }
def FnExactValuesRightWrongFalsely : Prop := fnExactValuesRightRow.holds Try.pinned (OpenSpec.ofChange fnExactValuesRightWrong)

/-- 'laws.FnExactEncode': WHATEVER THE INPUT: true; the input reads as it did. -/
def fnExactEncodeSpec : ChangeSpec := { name := "fnExactEncode", fn := fun _ => fun
  | [d1, d2] => { results := [.lit (.bool true)], args := [d1, d2] }
  | _ => none }
def fnExactEncodeRow : OpenClaim := { program := "ytanijfmfjabmfaa", sum := "59ebc8ea528b5b608264fc419d3842c01495a6b72d530fd0c053c22f8e3af4c6", func := "loop.example/g00628/laws.FnExactEncode", spec := "fnExactEncode", unfollowed := true, recurses := true, plainKeys := false, apart := false }
def FnExactEncodeSaid : Prop := fnExactEncodeRow.holds Try.pinned (OpenSpec.ofChange fnExactEncodeSpec)

/-- ITS FALSE NEIGHBOUR: 'it returns false'. Refute it at one input. -/
def fnExactEncodeWrong : ChangeSpec := { name := "fnExactEncode", fn := fun _ => fun
  | [d1, d2] => { results := [.lit (.bool false)], args := [d1, d2] }
  | _ => none }
def FnExactEncodeWrongFalsely : Prop := fnExactEncodeRow.holds Try.pinned (OpenSpec.ofChange fnExactEncodeWrong)

/-- 'laws.FnExactDecode': WHATEVER THE INPUT: true; the input reads as it did. -/
def fnExactDecodeSpec : ChangeSpec := { name := "fnExactDecode", fn := fun _ => fun
  | [d1, d2] => { results := [.lit (.bool true)], args := [d1, d2] }
  | _ => none }
def fnExactDecodeRow : OpenClaim := { program := "ytanijfmfjabmfaa", sum := "59ebc8ea528b5b608264fc419d3842c01495a6b72d530fd0c053c22f8e3af4c6", func := "loop.example/g00628/laws.FnExactDecode", spec := "fnExactDecode", unfollowed := true, recurses := true, plainKeys := false, apart := false }
def FnExactDecodeSaid : Prop := fnExactDecodeRow.holds Try.pinned (OpenSpec.ofChange fnExactDecodeSpec)

/-- ITS FALSE NEIGHBOUR: 'it returns false'. Refute it at one input. -/
def fnExactDecodeWrong : ChangeSpec := { name := "fnExactDecode", fn := fun _ => fun
  | [d1, d2] => { results := [.lit (.bool false)], args := [d1, d2] }
  | _ => none }
def FnExactDecodeWrongFalsely : Prop := fnExactDecodeRow.holds Try.pinned (OpenSpec.ofChange fnExactDecodeWrong)

/- THE SECOND FORM. 'bulk': how many values and letters a reading holds, each counted each time it is reached (what is shared counts as often as it is met; a slice's spare places count too). A statement '..UptoSaid' is the law's where the arguments, and the package variables that the reading takes, are together of bulk at most 1048576: NARROWER than '..Said'. Prove '..Said' where nothing that the law and all that it calls make is longer than what came in: it says more and counts as full. Else prove '..UptoSaid'. A law counts once. -/
mutual
def uptoBulk {H : Type} : DataW H → Nat
  | .lit (.string bytes) => bytes.length + 1
  | .lit _ => 1
  | .nil => 1
  | .ptr d => uptoBulk d + 1
  | .slice elems spare => uptoBulkAll elems + uptoBulkAll spare + 1
  | .agg parts => uptoBulkAll parts + 1
  | .iface _ d => uptoBulk d + 1
  | .map entries => uptoBulkEntries entries + 1
  | .held _ => 1
def uptoBulkAll {H : Type} : List (DataW H) → Nat
  | [] => 0
  | d :: r => uptoBulk d + uptoBulkAll r
def uptoBulkEntries {H : Type} : List (Lit × DataW H) → Nat
  | [] => 0
  | x :: r => uptoBulkEntry x + uptoBulkEntries r
def uptoBulkEntry {H : Type} : Lit × DataW H → Nat
  | (.string bytes, d) => bytes.length + uptoBulk d + 1
  | (_, d) => uptoBulk d + 1
 end
def uptoSmall : (H : Type) → List (DataW H) → Bool := fun _ ds => decide (uptoBulkAll ds ≤ 1048576)
def OpenSpec.upto (s : _root_.Go.ChangeSpec) : _root_.Go.OpenSpec := { _root_.Go.OpenSpec.ofChange s with cond := some uptoSmall }

/-- 'laws.FnClaim', WHERE WHAT IT READS IS OF BULK AT MOST 1048576: true; the input reads as it did. -/
def fnClaimUptoRow : OpenClaim := { program := "ytanijfmfjabmfaa", sum := "59ebc8ea528b5b608264fc419d3842c01495a6b72d530fd0c053c22f8e3af4c6", func := "loop.example/g00628/laws.FnClaim", spec := "fnClaim", inPlace := ["slices.overlaps[int64]"], plainKeys := false, apart := false, narrowed := true }
def FnClaimUptoSaid : Prop := fnClaimUptoRow.holds Try.pinned (OpenSpec.upto fnClaimSpec)

/-- 'laws.FnFast', WHERE WHAT IT READS IS OF BULK AT MOST 1048576: true; the input reads as it did. -/
def fnFastUptoRow : OpenClaim := { program := "ytanijfmfjabmfaa", sum := "59ebc8ea528b5b608264fc419d3842c01495a6b72d530fd0c053c22f8e3af4c6", func := "loop.example/g00628/laws.FnFast", spec := "fnFast", unfollowed := true, recurses := true, plainKeys := false, apart := false, narrowed := true }
def FnFastUptoSaid : Prop := fnFastUptoRow.holds Try.pinned (OpenSpec.upto fnFastSpec)

/-- 'laws.FnTable', WHERE WHAT IT READS IS OF BULK AT MOST 1048576: true; the input reads as it did. -/
def fnTableUptoRow : OpenClaim := { program := "ytanijfmfjabmfaa", sum := "59ebc8ea528b5b608264fc419d3842c01495a6b72d530fd0c053c22f8e3af4c6", func := "loop.example/g00628/laws.FnTable", spec := "fnTable", unfollowed := true, recurses := true, plainKeys := false, apart := false, narrowed := true }
def FnTableUptoSaid : Prop := fnTableUptoRow.holds Try.pinned (OpenSpec.upto fnTableSpec)

/-- 'laws.FnExactFastHear', WHERE WHAT IT READS IS OF BULK AT MOST 1048576: true; the input reads as it did. -/
def fnExactFastHearUptoRow : OpenClaim := { program := "ytanijfmfjabmfaa", sum := "59ebc8ea528b5b608264fc419d3842c01495a6b72d530fd0c053c22f8e3af4c6", func := "loop.example/g00628/laws.FnExactFastHear", spec := "fnExactFastHear", unfollowed := true, recurses := true, plainKeys := false, apart := false, narrowed := true }
def FnExactFastHearUptoSaid : Prop := fnExactFastHearUptoRow.holds Try.pinned (OpenSpec.upto fnExactFastHearSpec)

/-- 'laws.FnExactDefOf', WHERE WHAT IT READS IS OF BULK AT MOST 1048576: true; the input reads as it did. -/
def fnExactDefOfUptoRow : OpenClaim := { program := "ytanijfmfjabmfaa", sum := "59ebc8ea528b5b608264fc419d3842c01495a6b72d530fd0c053c22f8e3af4c6", func := "loop.example/g00628/laws.FnExactDefOf", spec := "fnExactDefOf", unfollowed := true, recurses := true, plainKeys := false, apart := false, narrowed := true }
def FnExactDefOfUptoSaid : Prop := fnExactDefOfUptoRow.holds Try.pinned (OpenSpec.upto fnExactDefOfSpec)

/-- 'laws.FnExactPgns', WHERE WHAT IT READS IS OF BULK AT MOST 1048576: true; the input reads as it did. -/
def fnExactPgnsUptoRow : OpenClaim := { program := "ytanijfmfjabmfaa", sum := "59ebc8ea528b5b608264fc419d3842c01495a6b72d530fd0c053c22f8e3af4c6", func := "loop.example/g00628/laws.FnExactPgns", spec := "fnExactPgns", plainKeys := false, apart := false, narrowed := true }
def FnExactPgnsUptoSaid : Prop := fnExactPgnsUptoRow.holds Try.pinned (OpenSpec.upto fnExactPgnsSpec)

/-- 'laws.FnExactValuesRight', WHERE WHAT IT READS IS OF BULK AT MOST 1048576: true; the input reads as it did. -/
def fnExactValuesRightUptoRow : OpenClaim := { program := "ytanijfmfjabmfaa", sum := "59ebc8ea528b5b608264fc419d3842c01495a6b72d530fd0c053c22f8e3af4c6", func := "loop.example/g00628/laws.FnExactValuesRight", spec := "fnExactValuesRight", unfollowed := true, recurses := true, plainKeys := false, apart := false, narrowed := true }
def FnExactValuesRightUptoSaid : Prop := fnExactValuesRightUptoRow.holds Try.pinned (OpenSpec.upto fnExactValuesRightSpec)

/-- 'laws.FnExactEncode', WHERE WHAT IT READS IS OF BULK AT MOST 1048576: true; the input reads as it did. -/
def fnExactEncodeUptoRow : OpenClaim := { program := "ytanijfmfjabmfaa", sum := "59ebc8ea528b5b608264fc419d3842c01495a6b72d530fd0c053c22f8e3af4c6", func := "loop.example/g00628/laws.FnExactEncode", spec := "fnExactEncode", unfollowed := true, recurses := true, plainKeys := false, apart := false, narrowed := true }
def FnExactEncodeUptoSaid : Prop := fnExactEncodeUptoRow.holds Try.pinned (OpenSpec.upto fnExactEncodeSpec)

/-- 'laws.FnExactDecode', WHERE WHAT IT READS IS OF BULK AT MOST 1048576: true; the input reads as it did. -/
def fnExactDecodeUptoRow : OpenClaim := { program := "ytanijfmfjabmfaa", sum := "59ebc8ea528b5b608264fc419d3842c01495a6b72d530fd0c053c22f8e3af4c6", func := "loop.example/g00628/laws.FnExactDecode", spec := "fnExactDecode", unfollowed := true, recurses := true, plainKeys := false, apart := false, narrowed := true }
def FnExactDecodeUptoSaid : Prop := fnExactDecodeUptoRow.holds Try.pinned (OpenSpec.upto fnExactDecodeSpec)

end Rows
end Go.Proofs.Ytanijfmfjabmfaa
