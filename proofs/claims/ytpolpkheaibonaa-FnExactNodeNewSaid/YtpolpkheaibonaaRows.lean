/-
  No cell of these rows narrows 'for every input' (looked for: loops, veiled, ifaces, maps, wideKeys, modest, calm, conditions, laid).
  DERIVED. THE GIVEN ROWS OF THIS SEAT. 5 by the template 'for every input the law returns true; each argument reads behind the call as it read before'; 0 by the template 'total and deterministic' (their statements: YtpolpkheaibonaaTotals.lean).
  GIVEN WITH THE SEED: the statements are not yours to turn. If you find one false, say at which input.
  Laid BY PROGRAM, IN A SANDBOX (cutbox-rows.mjs): the forced cells as the released guide's own fill.sh prints them over the translation 42626e2c9e639343… (all of the seat's roots in one cut). By AI agents, Wed Nov 11 2026. No macro, syntax, notation, axiom, sorry.
-/
import Derived.Test.YtpolpkheaibonaaChecked
import GoSem.Claim
import GoSem.ClaimJoined
import GoSem.ClaimMapViews
import Derived.JoinedTies
import Derived.KernelRfl
namespace Go.Proofs.Ytpolpkheaibonaa
/- THE CELL 'sum', in the pinned program and in every row, IS THE sha256 OF THE DUMP (.gsa) THAT YtpolpkheaibonaaProg.lean LOADS. Nothing in Lean hashes anything: it is a label: what it is worth is what the hold of that sum in a sandbox is worth. -/
noncomputable def Try.pinned : Pinned := { name := "ytpolpkheaibonaa", sum := "42626e2c9e6393430496aee6a7a667f9c1784ee950ffe271609247b5e690ba45", checked := Try.checked }
namespace Rows
def none {H : Type} : Left H := { results := [], args := [] }

/-- 'laws.FnExactDeviceTick': WHATEVER THE INPUT: true; the input reads as it did. -/
def fnExactDeviceTickSpec : ChangeSpec := { name := "fnExactDeviceTick", fn := fun _ => fun
  | [d] => { results := [.lit (.bool true)], args := [d] }
  | _ => none }
def fnExactDeviceTickRow : OpenClaim := { program := "ytpolpkheaibonaa", sum := "42626e2c9e6393430496aee6a7a667f9c1784ee950ffe271609247b5e690ba45", func := "loop.example/g00628/laws.FnExactDeviceTick", spec := "fnExactDeviceTick", unfollowed := true, recurses := true, plainKeys := false, apart := false }
def FnExactDeviceTickSaid : Prop := fnExactDeviceTickRow.holds Try.pinned (OpenSpec.ofChange fnExactDeviceTickSpec)

/-- ITS FALSE NEIGHBOUR: 'it returns false'. Refute it at one input. -/
def fnExactDeviceTickWrong : ChangeSpec := { name := "fnExactDeviceTick", fn := fun _ => fun
  | [d] => { results := [.lit (.bool false)], args := [d] }
  | _ => none }
def FnExactDeviceTickWrongFalsely : Prop := fnExactDeviceTickRow.holds Try.pinned (OpenSpec.ofChange fnExactDeviceTickWrong)

/-- 'laws.FnExactDeviceHear': WHATEVER THE INPUT: true; the input reads as it did. -/
def fnExactDeviceHearSpec : ChangeSpec := { name := "fnExactDeviceHear", fn := fun _ => fun
  | [d1, d2, d3] => { results := [.lit (.bool true)], args := [d1, d2, d3] }
  | _ => none }
def fnExactDeviceHearRow : OpenClaim := { program := "ytpolpkheaibonaa", sum := "42626e2c9e6393430496aee6a7a667f9c1784ee950ffe271609247b5e690ba45", func := "loop.example/g00628/laws.FnExactDeviceHear", spec := "fnExactDeviceHear", inPlace := ["slices.overlaps[loop.example/g00628/impl.Device]"], unfollowed := true, recurses := true, plainKeys := false, apart := false }
def FnExactDeviceHearSaid : Prop := fnExactDeviceHearRow.holds Try.pinned (OpenSpec.ofChange fnExactDeviceHearSpec)

/-- ITS FALSE NEIGHBOUR: 'it returns false'. Refute it at one input. -/
def fnExactDeviceHearWrong : ChangeSpec := { name := "fnExactDeviceHear", fn := fun _ => fun
  | [d1, d2, d3] => { results := [.lit (.bool false)], args := [d1, d2, d3] }
  | _ => none }
def FnExactDeviceHearWrongFalsely : Prop := fnExactDeviceHearRow.holds Try.pinned (OpenSpec.ofChange fnExactDeviceHearWrong)

/-- 'laws.FnExactFastHear': WHATEVER THE INPUT: true; the input reads as it did. -/
def fnExactFastHearSpec : ChangeSpec := { name := "fnExactFastHear", fn := fun _ => fun
  | [d1, d2, d3, d4] => { results := [.lit (.bool true)], args := [d1, d2, d3, d4] }
  | _ => none }
def fnExactFastHearRow : OpenClaim := { program := "ytpolpkheaibonaa", sum := "42626e2c9e6393430496aee6a7a667f9c1784ee950ffe271609247b5e690ba45", func := "loop.example/g00628/laws.FnExactFastHear", spec := "fnExactFastHear", unfollowed := true, recurses := true, plainKeys := false, apart := false }
def FnExactFastHearSaid : Prop := fnExactFastHearRow.holds Try.pinned (OpenSpec.ofChange fnExactFastHearSpec)

/-- ITS FALSE NEIGHBOUR: 'it returns false'. Refute it at one input. -/
def fnExactFastHearWrong : ChangeSpec := { name := "fnExactFastHear", fn := fun _ => fun
  | [d1, d2, d3, d4] => { results := [.lit (.bool false)], args := [d1, d2, d3, d4] }
  | _ => none }
def FnExactFastHearWrongFalsely : Prop := fnExactFastHearRow.holds Try.pinned (OpenSpec.ofChange fnExactFastHearWrong)

/-- 'laws.FnExactNodeRight': WHATEVER THE INPUT: true; the input reads as it did. -/
def fnExactNodeRightSpec : ChangeSpec := { name := "fnExactNodeRight", fn := fun _ => fun
  | [d] => { results := [.lit (.bool true)], args := [d] }
  | _ => none }
def fnExactNodeRightRow : OpenClaim := { program := "ytpolpkheaibonaa", sum := "42626e2c9e6393430496aee6a7a667f9c1784ee950ffe271609247b5e690ba45", func := "loop.example/g00628/laws.FnExactNodeRight", spec := "fnExactNodeRight", unfollowed := true, recurses := true, plainKeys := false, apart := false }
def FnExactNodeRightSaid : Prop := fnExactNodeRightRow.holds Try.pinned (OpenSpec.ofChange fnExactNodeRightSpec)

/-- ITS FALSE NEIGHBOUR: 'it returns false'. Refute it at one input. -/
def fnExactNodeRightWrong : ChangeSpec := { name := "fnExactNodeRight", fn := fun _ => fun
  | [d] => { results := [.lit (.bool false)], args := [d] }
  | _ => none }
def FnExactNodeRightWrongFalsely : Prop := fnExactNodeRightRow.holds Try.pinned (OpenSpec.ofChange fnExactNodeRightWrong)

/-- 'laws.FnExactNodeNew': WHATEVER THE INPUT: true; the input reads as it did. -/
def fnExactNodeNewSpec : ChangeSpec := { name := "fnExactNodeNew", fn := fun _ => fun
  | [d1, d2] => { results := [.lit (.bool true)], args := [d1, d2] }
  | _ => none }
def fnExactNodeNewRow : OpenClaim := { program := "ytpolpkheaibonaa", sum := "42626e2c9e6393430496aee6a7a667f9c1784ee950ffe271609247b5e690ba45", func := "loop.example/g00628/laws.FnExactNodeNew", spec := "fnExactNodeNew", plainKeys := false, apart := false }
def FnExactNodeNewSaid : Prop := fnExactNodeNewRow.holds Try.pinned (OpenSpec.ofChange fnExactNodeNewSpec)

/-- ITS FALSE NEIGHBOUR: 'it returns false'. Refute it at one input. -/
def fnExactNodeNewWrong : ChangeSpec := { name := "fnExactNodeNew", fn := fun _ => fun
  | [d1, d2] => { results := [.lit (.bool false)], args := [d1, d2] }
  | _ => none }
def FnExactNodeNewWrongFalsely : Prop := fnExactNodeNewRow.holds Try.pinned (OpenSpec.ofChange fnExactNodeNewWrong)

/- THE SECOND FORM. 'bulk': how many values and letters a reading holds, each counted each time it is reached (what is shared counts as often as it is met; a slice's spare places count too). A statement '..UptoSaid' is the law's where the arguments, and the package variables that the reading takes, are together of bulk at most 1048576: NARROWER than '..Said'. Prove '..Said' where nothing that the law and all that it calls make is longer than what came in: it says more and counts as full. Else prove '..UptoSaid'. A law counts once. -/
mutual
def uptoBulk {H : Type} : DataW H → Nat
  | .lit (.string bytes) => bytes.length + 1
  | .lit _ => 1
  | .nil => 1
  | .ptr d => uptoBulk d + 1
  | .slice elems spare => uptoBulkAll elems + uptoBulkAll spare + 1
  | .agg parts => uptoBulkAll parts + 1
  | .iface _ d => uptoBulk d + 1
  | .map entries => uptoBulkEntries entries + 1
  | .held _ => 1
def uptoBulkAll {H : Type} : List (DataW H) → Nat
  | [] => 0
  | d :: r => uptoBulk d + uptoBulkAll r
def uptoBulkEntries {H : Type} : List (Lit × DataW H) → Nat
  | [] => 0
  | x :: r => uptoBulkEntry x + uptoBulkEntries r
def uptoBulkEntry {H : Type} : Lit × DataW H → Nat
  | (.string bytes, d) => bytes.length + uptoBulk d + 1
  | (_, d) => uptoBulk d + 1
 end
def uptoSmall : (H : Type) → List (DataW H) → Bool := fun _ ds => decide (uptoBulkAll ds ≤ 1048576)
def OpenSpec.upto (s : _root_.Go.ChangeSpec) : _root_.Go.OpenSpec := { _root_.Go.OpenSpec.ofChange s with cond := some uptoSmall }

/-- 'laws.FnExactDeviceTick', WHERE WHAT IT READS IS OF BULK AT MOST 1048576: true; the input reads as it did. -/
def fnExactDeviceTickUptoRow : OpenClaim := { program := "ytpolpkheaibonaa", sum := "42626e2c9e6393430496aee6a7a667f9c1784ee950ffe271609247b5e690ba45", func := "loop.example/g00628/laws.FnExactDeviceTick", spec := "fnExactDeviceTick", unfollowed := true, recurses := true, plainKeys := false, apart := false, narrowed := true }
def FnExactDeviceTickUptoSaid : Prop := fnExactDeviceTickUptoRow.holds Try.pinned (OpenSpec.upto fnExactDeviceTickSpec)

/-- 'laws.FnExactDeviceHear', WHERE WHAT IT READS IS OF BULK AT MOST 1048576: true; the input reads as it did. -/
def fnExactDeviceHearUptoRow : OpenClaim := { program := "ytpolpkheaibonaa", sum := "42626e2c9e6393430496aee6a7a667f9c1784ee950ffe271609247b5e690ba45", func := "loop.example/g00628/laws.FnExactDeviceHear", spec := "fnExactDeviceHear", inPlace := ["slices.overlaps[loop.example/g00628/impl.Device]"], unfollowed := true, recurses := true, plainKeys := false, apart := false, narrowed := true }
def FnExactDeviceHearUptoSaid : Prop := fnExactDeviceHearUptoRow.holds Try.pinned (OpenSpec.upto fnExactDeviceHearSpec)

/-- 'laws.FnExactFastHear', WHERE WHAT IT READS IS OF BULK AT MOST 1048576: true; the input reads as it did. -/
def fnExactFastHearUptoRow : OpenClaim := { program := "ytpolpkheaibonaa", sum := "42626e2c9e6393430496aee6a7a667f9c1784ee950ffe271609247b5e690ba45", func := "loop.example/g00628/laws.FnExactFastHear", spec := "fnExactFastHear", unfollowed := true, recurses := true, plainKeys := false, apart := false, narrowed := true }
def FnExactFastHearUptoSaid : Prop := fnExactFastHearUptoRow.holds Try.pinned (OpenSpec.upto fnExactFastHearSpec)

/-- 'laws.FnExactNodeRight', WHERE WHAT IT READS IS OF BULK AT MOST 1048576: true; the input reads as it did. -/
def fnExactNodeRightUptoRow : OpenClaim := { program := "ytpolpkheaibonaa", sum := "42626e2c9e6393430496aee6a7a667f9c1784ee950ffe271609247b5e690ba45", func := "loop.example/g00628/laws.FnExactNodeRight", spec := "fnExactNodeRight", unfollowed := true, recurses := true, plainKeys := false, apart := false, narrowed := true }
def FnExactNodeRightUptoSaid : Prop := fnExactNodeRightUptoRow.holds Try.pinned (OpenSpec.upto fnExactNodeRightSpec)

/-- 'laws.FnExactNodeNew', WHERE WHAT IT READS IS OF BULK AT MOST 1048576: true; the input reads as it did. -/
def fnExactNodeNewUptoRow : OpenClaim := { program := "ytpolpkheaibonaa", sum := "42626e2c9e6393430496aee6a7a667f9c1784ee950ffe271609247b5e690ba45", func := "loop.example/g00628/laws.FnExactNodeNew", spec := "fnExactNodeNew", plainKeys := false, apart := false, narrowed := true }
def FnExactNodeNewUptoSaid : Prop := fnExactNodeNewUptoRow.holds Try.pinned (OpenSpec.upto fnExactNodeNewSpec)

end Rows
end Go.Proofs.Ytpolpkheaibonaa
