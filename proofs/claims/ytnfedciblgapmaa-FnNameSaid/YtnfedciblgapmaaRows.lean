/-
  No cell of these rows narrows 'for every input' (looked for: loops, veiled, ifaces, maps, wideKeys, modest, calm, conditions, laid).
  DERIVED. THE GIVEN ROWS OF THIS SEAT. 5 by the template 'for every input the law returns true; each argument reads behind the call as it read before'; 0 by the template 'total and deterministic' (their statements: YtnfedciblgapmaaTotals.lean).
  GIVEN WITH THE SEED: the statements are not yours to turn. If you find one false, say at which input.
  Laid BY PROGRAM, IN A SANDBOX (cutbox-rows.mjs): the forced cells as the released guide's own fill.sh prints them over the translation 2109cd074448ac43… (all of the seat's roots in one cut). By AI agents, Wed Nov 11 2026. No macro, syntax, notation, axiom, sorry.
-/
import Derived.Test.YtnfedciblgapmaaChecked
import GoSem.Claim
import GoSem.ClaimJoined
import GoSem.ClaimMapViews
import Derived.JoinedTies
import Derived.KernelRfl
namespace Go.Proofs.Ytnfedciblgapmaa
/- THE CELL 'sum', in the pinned program and in every row, IS THE sha256 OF THE DUMP (.gsa) THAT YtnfedciblgapmaaProg.lean LOADS. Nothing in Lean hashes anything: it is a label: what it is worth is what the hold of that sum in a sandbox is worth. -/
noncomputable def Try.pinned : Pinned := { name := "ytnfedciblgapmaa", sum := "2109cd074448ac43ca9f4ec3c95e15889c563522f3632f7974e2a4fa02d9edbb", checked := Try.checked }
namespace Rows
def none {H : Type} : Left H := { results := [], args := [] }

/-- 'laws.FnName': WHATEVER THE INPUT: true; the input reads as it did. -/
def fnNameSpec : ChangeSpec := { name := "fnName", fn := fun _ => fun
  | [d1, d2] => { results := [.lit (.bool true)], args := [d1, d2] }
  | _ => none }
def fnNameRow : OpenClaim := { program := "ytnfedciblgapmaa", sum := "2109cd074448ac43ca9f4ec3c95e15889c563522f3632f7974e2a4fa02d9edbb", func := "loop.example/g00628/laws.FnName", spec := "fnName", apart := false }
def FnNameSaid : Prop := fnNameRow.holds Try.pinned (OpenSpec.ofChange fnNameSpec)

/-- ITS FALSE NEIGHBOUR: 'it returns false'. Refute it at one input. -/
def fnNameWrong : ChangeSpec := { name := "fnName", fn := fun _ => fun
  | [d1, d2] => { results := [.lit (.bool false)], args := [d1, d2] }
  | _ => none }
def FnNameWrongFalsely : Prop := fnNameRow.holds Try.pinned (OpenSpec.ofChange fnNameWrong)

/-- 'laws.FnExactNameOk': WHATEVER THE INPUT: true; the input reads as it did. -/
def fnExactNameOkSpec : ChangeSpec := { name := "fnExactNameOk", fn := fun _ => fun
  | [d] => { results := [.lit (.bool true)], args := [d] }
  | _ => none }
def fnExactNameOkRow : OpenClaim := { program := "ytnfedciblgapmaa", sum := "2109cd074448ac43ca9f4ec3c95e15889c563522f3632f7974e2a4fa02d9edbb", func := "loop.example/g00628/laws.FnExactNameOk", spec := "fnExactNameOk", apart := false }
def FnExactNameOkSaid : Prop := fnExactNameOkRow.holds Try.pinned (OpenSpec.ofChange fnExactNameOkSpec)

/-- ITS FALSE NEIGHBOUR: 'it returns false'. Refute it at one input. -/
def fnExactNameOkWrong : ChangeSpec := { name := "fnExactNameOk", fn := fun _ => fun
  | [d] => { results := [.lit (.bool false)], args := [d] }
  | _ => none }
def FnExactNameOkWrongFalsely : Prop := fnExactNameOkRow.holds Try.pinned (OpenSpec.ofChange fnExactNameOkWrong)

/-- 'laws.FnExactNameBytes': WHATEVER THE INPUT: true; the input reads as it did. -/
def fnExactNameBytesSpec : ChangeSpec := { name := "fnExactNameBytes", fn := fun _ => fun
  | [d] => { results := [.lit (.bool true)], args := [d] }
  | _ => none }
def fnExactNameBytesRow : OpenClaim := { program := "ytnfedciblgapmaa", sum := "2109cd074448ac43ca9f4ec3c95e15889c563522f3632f7974e2a4fa02d9edbb", func := "loop.example/g00628/laws.FnExactNameBytes", spec := "fnExactNameBytes", apart := false }
def FnExactNameBytesSaid : Prop := fnExactNameBytesRow.holds Try.pinned (OpenSpec.ofChange fnExactNameBytesSpec)

/-- ITS FALSE NEIGHBOUR: 'it returns false'. Refute it at one input. -/
def fnExactNameBytesWrong : ChangeSpec := { name := "fnExactNameBytes", fn := fun _ => fun
  | [d] => { results := [.lit (.bool false)], args := [d] }
  | _ => none }
def FnExactNameBytesWrongFalsely : Prop := fnExactNameBytesRow.holds Try.pinned (OpenSpec.ofChange fnExactNameBytesWrong)

/-- 'laws.FnExactNameFrom': WHATEVER THE INPUT: true; the input reads as it did. -/
def fnExactNameFromSpec : ChangeSpec := { name := "fnExactNameFrom", fn := fun _ => fun
  | [d] => { results := [.lit (.bool true)], args := [d] }
  | _ => none }
def fnExactNameFromRow : OpenClaim := { program := "ytnfedciblgapmaa", sum := "2109cd074448ac43ca9f4ec3c95e15889c563522f3632f7974e2a4fa02d9edbb", func := "loop.example/g00628/laws.FnExactNameFrom", spec := "fnExactNameFrom", apart := false }
def FnExactNameFromSaid : Prop := fnExactNameFromRow.holds Try.pinned (OpenSpec.ofChange fnExactNameFromSpec)

/-- ITS FALSE NEIGHBOUR: 'it returns false'. Refute it at one input. -/
def fnExactNameFromWrong : ChangeSpec := { name := "fnExactNameFrom", fn := fun _ => fun
  | [d] => { results := [.lit (.bool false)], args := [d] }
  | _ => none }
def FnExactNameFromWrongFalsely : Prop := fnExactNameFromRow.holds Try.pinned (OpenSpec.ofChange fnExactNameFromWrong)

/-- 'laws.FnExactNameLess': WHATEVER THE INPUT: true; the input reads as it did. -/
def fnExactNameLessSpec : ChangeSpec := { name := "fnExactNameLess", fn := fun _ => fun
  | [d1, d2] => { results := [.lit (.bool true)], args := [d1, d2] }
  | _ => none }
def fnExactNameLessRow : OpenClaim := { program := "ytnfedciblgapmaa", sum := "2109cd074448ac43ca9f4ec3c95e15889c563522f3632f7974e2a4fa02d9edbb", func := "loop.example/g00628/laws.FnExactNameLess", spec := "fnExactNameLess", apart := false }
def FnExactNameLessSaid : Prop := fnExactNameLessRow.holds Try.pinned (OpenSpec.ofChange fnExactNameLessSpec)

/-- ITS FALSE NEIGHBOUR: 'it returns false'. Refute it at one input. -/
def fnExactNameLessWrong : ChangeSpec := { name := "fnExactNameLess", fn := fun _ => fun
  | [d1, d2] => { results := [.lit (.bool false)], args := [d1, d2] }
  | _ => none }
def FnExactNameLessWrongFalsely : Prop := fnExactNameLessRow.holds Try.pinned (OpenSpec.ofChange fnExactNameLessWrong)

/- THE SECOND FORM. 'bulk': how many values and letters a reading holds, each counted each time it is reached (what is shared counts as often as it is met; a slice's spare places count too). A statement '..UptoSaid' is the law's where the arguments, and the package variables that the reading takes, are together of bulk at most 1048576: NARROWER than '..Said'. Prove '..Said' where nothing that the law and all that it calls make is longer than what came in: it says more and counts as full. Else prove '..UptoSaid'. A law counts once. -/
mutual
def uptoBulk {H : Type} : DataW H → Nat
  | .lit (.string bytes) => bytes.length + 1
  | .lit _ => 1
  | .nil => 1
  | .ptr d => uptoBulk d + 1
  | .slice elems spare => uptoBulkAll elems + uptoBulkAll spare + 1
  | .agg parts => uptoBulkAll parts + 1
  | .iface _ d => uptoBulk d + 1
  | .map entries => uptoBulkEntries entries + 1
  | .held _ => 1
def uptoBulkAll {H : Type} : List (DataW H) → Nat
  | [] => 0
  | d :: r => uptoBulk d + uptoBulkAll r
def uptoBulkEntries {H : Type} : List (Lit × DataW H) → Nat
  | [] => 0
  | x :: r => uptoBulkEntry x + uptoBulkEntries r
def uptoBulkEntry {H : Type} : Lit × DataW H → Nat
  | (.string bytes, d) => bytes.length + uptoBulk d + 1
  | (_, d) => uptoBulk d + 1
 end
def uptoSmall : (H : Type) → List (DataW H) → Bool := fun _ ds => decide (uptoBulkAll ds ≤ 1048576)
def OpenSpec.upto (s : _root_.Go.ChangeSpec) : _root_.Go.OpenSpec := { _root_.Go.OpenSpec.ofChange s with cond := some uptoSmall }

/-- 'laws.FnName', WHERE WHAT IT READS IS OF BULK AT MOST 1048576: true; the input reads as it did. -/
def fnNameUptoRow : OpenClaim := { program := "ytnfedciblgapmaa", sum := "2109cd074448ac43ca9f4ec3c95e15889c563522f3632f7974e2a4fa02d9edbb", func := "loop.example/g00628/laws.FnName", spec := "fnName", apart := false, narrowed := true }
def FnNameUptoSaid : Prop := fnNameUptoRow.holds Try.pinned (OpenSpec.upto fnNameSpec)

/-- 'laws.FnExactNameOk', WHERE WHAT IT READS IS OF BULK AT MOST 1048576: true; the input reads as it did. -/
def fnExactNameOkUptoRow : OpenClaim := { program := "ytnfedciblgapmaa", sum := "2109cd074448ac43ca9f4ec3c95e15889c563522f3632f7974e2a4fa02d9edbb", func := "loop.example/g00628/laws.FnExactNameOk", spec := "fnExactNameOk", apart := false, narrowed := true }
def FnExactNameOkUptoSaid : Prop := fnExactNameOkUptoRow.holds Try.pinned (OpenSpec.upto fnExactNameOkSpec)

/-- 'laws.FnExactNameBytes', WHERE WHAT IT READS IS OF BULK AT MOST 1048576: true; the input reads as it did. -/
def fnExactNameBytesUptoRow : OpenClaim := { program := "ytnfedciblgapmaa", sum := "2109cd074448ac43ca9f4ec3c95e15889c563522f3632f7974e2a4fa02d9edbb", func := "loop.example/g00628/laws.FnExactNameBytes", spec := "fnExactNameBytes", apart := false, narrowed := true }
def FnExactNameBytesUptoSaid : Prop := fnExactNameBytesUptoRow.holds Try.pinned (OpenSpec.upto fnExactNameBytesSpec)

/-- 'laws.FnExactNameFrom', WHERE WHAT IT READS IS OF BULK AT MOST 1048576: true; the input reads as it did. -/
def fnExactNameFromUptoRow : OpenClaim := { program := "ytnfedciblgapmaa", sum := "2109cd074448ac43ca9f4ec3c95e15889c563522f3632f7974e2a4fa02d9edbb", func := "loop.example/g00628/laws.FnExactNameFrom", spec := "fnExactNameFrom", apart := false, narrowed := true }
def FnExactNameFromUptoSaid : Prop := fnExactNameFromUptoRow.holds Try.pinned (OpenSpec.upto fnExactNameFromSpec)

/-- 'laws.FnExactNameLess', WHERE WHAT IT READS IS OF BULK AT MOST 1048576: true; the input reads as it did. -/
def fnExactNameLessUptoRow : OpenClaim := { program := "ytnfedciblgapmaa", sum := "2109cd074448ac43ca9f4ec3c95e15889c563522f3632f7974e2a4fa02d9edbb", func := "loop.example/g00628/laws.FnExactNameLess", spec := "fnExactNameLess", apart := false, narrowed := true }
def FnExactNameLessUptoSaid : Prop := fnExactNameLessUptoRow.holds Try.pinned (OpenSpec.upto fnExactNameLessSpec)

end Rows
end Go.Proofs.Ytnfedciblgapmaa
