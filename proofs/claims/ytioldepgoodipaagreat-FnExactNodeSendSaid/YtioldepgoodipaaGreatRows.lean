/-
  No cell of these rows narrows 'for every input' (looked for: loops, veiled, ifaces, maps, wideKeys, modest, calm, conditions, laid).
  DERIVED. THE GIVEN ROWS OF THIS SEAT. 3 by the template 'for every input the law returns true; each argument reads behind the call as it read before'; 0 by the template 'total and deterministic' (their statements: YtioldepgoodipaaGreatTotals.lean).
  GIVEN WITH THE SEED: the statements are not yours to turn. If you find one false, say at which input.
  Laid BY PROGRAM, IN A SANDBOX (cutbox-rows.mjs): the forced cells as the released guide's own fill.sh prints them over the translation ce8a6391505620bf… (all of the seat's roots in one cut). By AI agents, Wed Nov 11 2026. No macro, syntax, notation, axiom, sorry.
-/
import Derived.Test.YtioldepgoodipaaGreatChecked
import GoSem.Claim
import GoSem.ClaimJoined
import GoSem.ClaimMapViews
import Derived.JoinedTies
import Derived.KernelRfl
namespace Go.Proofs.YtioldepgoodipaaGreat
/- THE CELL 'sum', in the pinned program and in every row, IS THE sha256 OF THE DUMP (.gsa) THAT YtioldepgoodipaaGreatProg.lean LOADS. Nothing in Lean hashes anything: it is a label: what it is worth is what the hold of that sum in a sandbox is worth. -/
noncomputable def Tryz.pinned : Pinned := { name := "ytioldepgoodipaagreat", sum := "ce8a6391505620bf92df8ce2de28cf6bc09ac10144c2378e7c94cf6d955d8132", checked := Tryz.checked }
namespace Rows
def none {H : Type} : Left H := { results := [], args := [] }

/-- 'laws.FnExactNodeSend': WHATEVER THE INPUT: true; the input reads as it did. -/
def fnExactNodeSendSpec : ChangeSpec := { name := "fnExactNodeSend", fn := fun _ => fun
  | [d1, d2, d3] => { results := [.lit (.bool true)], args := [d1, d2, d3] }
  | _ => none }
def fnExactNodeSendRow : OpenClaim := { program := "ytioldepgoodipaagreat", sum := "ce8a6391505620bf92df8ce2de28cf6bc09ac10144c2378e7c94cf6d955d8132", func := "loop.example/g00628/laws.FnExactNodeSend", spec := "fnExactNodeSend", unfollowed := true, recurses := true, plainKeys := false, apart := false }
def FnExactNodeSendSaid : Prop := fnExactNodeSendRow.holds Tryz.pinned (OpenSpec.ofChange fnExactNodeSendSpec)

/-- ITS FALSE NEIGHBOUR: 'it returns false'. Refute it at one input. -/
def fnExactNodeSendWrong : ChangeSpec := { name := "fnExactNodeSend", fn := fun _ => fun
  | [d1, d2, d3] => { results := [.lit (.bool false)], args := [d1, d2, d3] }
  | _ => none }
def FnExactNodeSendWrongFalsely : Prop := fnExactNodeSendRow.holds Tryz.pinned (OpenSpec.ofChange fnExactNodeSendWrong)

/-- 'laws.FnExactNodeHear': WHATEVER THE INPUT: true; the input reads as it did. -/
def fnExactNodeHearSpec : ChangeSpec := { name := "fnExactNodeHear", fn := fun _ => fun
  | [d1, d2] => { results := [.lit (.bool true)], args := [d1, d2] }
  | _ => none }
def fnExactNodeHearRow : OpenClaim := { program := "ytioldepgoodipaagreat", sum := "ce8a6391505620bf92df8ce2de28cf6bc09ac10144c2378e7c94cf6d955d8132", func := "loop.example/g00628/laws.FnExactNodeHear", spec := "fnExactNodeHear", inPlace := ["slices.overlaps[int64]", "slices.overlaps[loop.example/g00628/impl.Device]"], unfollowed := true, recurses := true, plainKeys := false, apart := false }
def FnExactNodeHearSaid : Prop := fnExactNodeHearRow.holds Tryz.pinned (OpenSpec.ofChange fnExactNodeHearSpec)

/-- ITS FALSE NEIGHBOUR: 'it returns false'. Refute it at one input. -/
def fnExactNodeHearWrong : ChangeSpec := { name := "fnExactNodeHear", fn := fun _ => fun
  | [d1, d2] => { results := [.lit (.bool false)], args := [d1, d2] }
  | _ => none }
def FnExactNodeHearWrongFalsely : Prop := fnExactNodeHearRow.holds Tryz.pinned (OpenSpec.ofChange fnExactNodeHearWrong)

/-- 'laws.FnExactNodeTick': WHATEVER THE INPUT: true; the input reads as it did. -/
def fnExactNodeTickSpec : ChangeSpec := { name := "fnExactNodeTick", fn := fun _ => fun
  | [d] => { results := [.lit (.bool true)], args := [d] }
  | _ => none }
def fnExactNodeTickRow : OpenClaim := { program := "ytioldepgoodipaagreat", sum := "ce8a6391505620bf92df8ce2de28cf6bc09ac10144c2378e7c94cf6d955d8132", func := "loop.example/g00628/laws.FnExactNodeTick", spec := "fnExactNodeTick", unfollowed := true, recurses := true, plainKeys := false, apart := false }
def FnExactNodeTickSaid : Prop := fnExactNodeTickRow.holds Tryz.pinned (OpenSpec.ofChange fnExactNodeTickSpec)

/-- ITS FALSE NEIGHBOUR: 'it returns false'. Refute it at one input. -/
def fnExactNodeTickWrong : ChangeSpec := { name := "fnExactNodeTick", fn := fun _ => fun
  | [d] => { results := [.lit (.bool false)], args := [d] }
  | _ => none }
def FnExactNodeTickWrongFalsely : Prop := fnExactNodeTickRow.holds Tryz.pinned (OpenSpec.ofChange fnExactNodeTickWrong)

/- THE SECOND FORM. 'bulk': how many values and letters a reading holds, each counted each time it is reached (what is shared counts as often as it is met; a slice's spare places count too). A statement '..UptoSaid' is the law's where the arguments, and the package variables that the reading takes, are together of bulk at most 1048576: NARROWER than '..Said'. Prove '..Said' where nothing that the law and all that it calls make is longer than what came in: it says more and counts as full. Else prove '..UptoSaid'. A law counts once. -/
mutual
def uptoBulk {H : Type} : DataW H → Nat
  | .lit (.string bytes) => bytes.length + 1
  | .lit _ => 1
  | .nil => 1
  | .ptr d => uptoBulk d + 1
  | .slice elems spare => uptoBulkAll elems + uptoBulkAll spare + 1
  | .agg parts => uptoBulkAll parts + 1
  | .iface _ d => uptoBulk d + 1
  | .map entries => uptoBulkEntries entries + 1
  | .held _ => 1
def uptoBulkAll {H : Type} : List (DataW H) → Nat
  | [] => 0
  | d :: r => uptoBulk d + uptoBulkAll r
def uptoBulkEntries {H : Type} : List (Lit × DataW H) → Nat
  | [] => 0
  | x :: r => uptoBulkEntry x + uptoBulkEntries r
def uptoBulkEntry {H : Type} : Lit × DataW H → Nat
  | (.string bytes, d) => bytes.length + uptoBulk d + 1
  | (_, d) => uptoBulk d + 1
 end
def uptoSmall : (H : Type) → List (DataW H) → Bool := fun _ ds => decide (uptoBulkAll ds ≤ 1048576)
def OpenSpec.upto (s : _root_.Go.ChangeSpec) : _root_.Go.OpenSpec := { _root_.Go.OpenSpec.ofChange s with cond := some uptoSmall }

/-- 'laws.FnExactNodeSend', WHERE WHAT IT READS IS OF BULK AT MOST 1048576: true; the input reads as it did. -/
def fnExactNodeSendUptoRow : OpenClaim := { program := "ytioldepgoodipaagreat", sum := "ce8a6391505620bf92df8ce2de28cf6bc09ac10144c2378e7c94cf6d955d8132", func := "loop.example/g00628/laws.FnExactNodeSend", spec := "fnExactNodeSend", unfollowed := true, recurses := true, plainKeys := false, apart := false, narrowed := true }
def FnExactNodeSendUptoSaid : Prop := fnExactNodeSendUptoRow.holds Tryz.pinned (OpenSpec.upto fnExactNodeSendSpec)

/-- 'laws.FnExactNodeHear', WHERE WHAT IT READS IS OF BULK AT MOST 1048576: true; the input reads as it did. -/
def fnExactNodeHearUptoRow : OpenClaim := { program := "ytioldepgoodipaagreat", sum := "ce8a6391505620bf92df8ce2de28cf6bc09ac10144c2378e7c94cf6d955d8132", func := "loop.example/g00628/laws.FnExactNodeHear", spec := "fnExactNodeHear", inPlace := ["slices.overlaps[int64]", "slices.overlaps[loop.example/g00628/impl.Device]"], unfollowed := true, recurses := true, plainKeys := false, apart := false, narrowed := true }
def FnExactNodeHearUptoSaid : Prop := fnExactNodeHearUptoRow.holds Tryz.pinned (OpenSpec.upto fnExactNodeHearSpec)

/-- 'laws.FnExactNodeTick', WHERE WHAT IT READS IS OF BULK AT MOST 1048576: true; the input reads as it did. -/
def fnExactNodeTickUptoRow : OpenClaim := { program := "ytioldepgoodipaagreat", sum := "ce8a6391505620bf92df8ce2de28cf6bc09ac10144c2378e7c94cf6d955d8132", func := "loop.example/g00628/laws.FnExactNodeTick", spec := "fnExactNodeTick", unfollowed := true, recurses := true, plainKeys := false, apart := false, narrowed := true }
def FnExactNodeTickUptoSaid : Prop := fnExactNodeTickUptoRow.holds Tryz.pinned (OpenSpec.upto fnExactNodeTickSpec)

end Rows
end Go.Proofs.YtioldepgoodipaaGreat
