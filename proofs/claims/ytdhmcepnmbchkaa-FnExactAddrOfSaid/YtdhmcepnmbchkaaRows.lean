/-
  No cell of these rows narrows 'for every input' (looked for: loops, veiled, ifaces, maps, wideKeys, modest, calm, conditions, laid).
  DERIVED. THE GIVEN ROWS OF THIS SEAT. 8 by the template 'for every input the law returns true; each argument reads behind the call as it read before'; 0 by the template 'total and deterministic' (their statements: YtdhmcepnmbchkaaTotals.lean).
  GIVEN WITH THE SEED: the statements are not yours to turn. If you find one false, say at which input.
  Laid BY PROGRAM, IN A SANDBOX (cutbox-rows.mjs): the forced cells as the released guide's own fill.sh prints them over the translation 1e949f7df28b3350… (all of the seat's roots in one cut). By AI agents, Wed Nov 11 2026. No macro, syntax, notation, axiom, sorry.
-/
import Derived.Test.YtdhmcepnmbchkaaChecked
import GoSem.Claim
import GoSem.ClaimJoined
import GoSem.ClaimMapViews
import Derived.JoinedTies
import Derived.KernelRfl
namespace Go.Proofs.Ytdhmcepnmbchkaa
/- THE CELL 'sum', in the pinned program and in every row, IS THE sha256 OF THE DUMP (.gsa) THAT YtdhmcepnmbchkaaProg.lean LOADS. Nothing in Lean hashes anything: it is a label: what it is worth is what the hold of that sum in a sandbox is worth. -/
noncomputable def Try.pinned : Pinned := { name := "ytdhmcepnmbchkaa", sum := "1e949f7df28b33506a24de91e3549c4bec1b02881caf6ab5d8b412d339c39922", checked := Try.checked }
namespace Rows
def none {H : Type} : Left H := { results := [], args := [] }

/-- 'laws.FnClaim': WHATEVER THE INPUT: true; the input reads as it did. -/
def fnClaimSpec : ChangeSpec := { name := "fnClaim", fn := fun _ => fun
  | [d1, d2] => { results := [.lit (.bool true)], args := [d1, d2] }
  | _ => none }
def fnClaimRow : OpenClaim := { program := "ytdhmcepnmbchkaa", sum := "1e949f7df28b33506a24de91e3549c4bec1b02881caf6ab5d8b412d339c39922", func := "loop.example/g00628/laws.FnClaim", spec := "fnClaim", inPlace := ["slices.overlaps[int64]"], apart := false }
def FnClaimSaid : Prop := fnClaimRow.holds Try.pinned (OpenSpec.ofChange fnClaimSpec)

/-- ITS FALSE NEIGHBOUR: 'it returns false'. Refute it at one input. -/
def fnClaimWrong : ChangeSpec := { name := "fnClaim", fn := fun _ => fun
  | [d1, d2] => { results := [.lit (.bool false)], args := [d1, d2] }
  | _ => none }
def FnClaimWrongFalsely : Prop := fnClaimRow.holds Try.pinned (OpenSpec.ofChange fnClaimWrong)

/-- 'laws.FnExactDevicesRight': WHATEVER THE INPUT: true; the input reads as it did. -/
def fnExactDevicesRightSpec : ChangeSpec := { name := "fnExactDevicesRight", fn := fun _ => fun
  | [d] => { results := [.lit (.bool true)], args := [d] }
  | _ => none }
def fnExactDevicesRightRow : OpenClaim := { program := "ytdhmcepnmbchkaa", sum := "1e949f7df28b33506a24de91e3549c4bec1b02881caf6ab5d8b412d339c39922", func := "loop.example/g00628/laws.FnExactDevicesRight", spec := "fnExactDevicesRight", apart := false }
def FnExactDevicesRightSaid : Prop := fnExactDevicesRightRow.holds Try.pinned (OpenSpec.ofChange fnExactDevicesRightSpec)

/-- ITS FALSE NEIGHBOUR: 'it returns false'. Refute it at one input. -/
def fnExactDevicesRightWrong : ChangeSpec := { name := "fnExactDevicesRight", fn := fun _ => fun
  | [d] => { results := [.lit (.bool false)], args := [d] }
  | _ => none }
def FnExactDevicesRightWrongFalsely : Prop := fnExactDevicesRightRow.holds Try.pinned (OpenSpec.ofChange fnExactDevicesRightWrong)

/-- 'laws.FnExactDeviceHear': WHATEVER THE INPUT: true; the input reads as it did. -/
def fnExactDeviceHearSpec : ChangeSpec := { name := "fnExactDeviceHear", fn := fun _ => fun
  | [d1, d2, d3] => { results := [.lit (.bool true)], args := [d1, d2, d3] }
  | _ => none }
def fnExactDeviceHearRow : OpenClaim := { program := "ytdhmcepnmbchkaa", sum := "1e949f7df28b33506a24de91e3549c4bec1b02881caf6ab5d8b412d339c39922", func := "loop.example/g00628/laws.FnExactDeviceHear", spec := "fnExactDeviceHear", inPlace := ["slices.overlaps[loop.example/g00628/impl.Device]"], unfollowed := true, recurses := true, apart := false }
def FnExactDeviceHearSaid : Prop := fnExactDeviceHearRow.holds Try.pinned (OpenSpec.ofChange fnExactDeviceHearSpec)

/-- ITS FALSE NEIGHBOUR: 'it returns false'. Refute it at one input. -/
def fnExactDeviceHearWrong : ChangeSpec := { name := "fnExactDeviceHear", fn := fun _ => fun
  | [d1, d2, d3] => { results := [.lit (.bool false)], args := [d1, d2, d3] }
  | _ => none }
def FnExactDeviceHearWrongFalsely : Prop := fnExactDeviceHearRow.holds Try.pinned (OpenSpec.ofChange fnExactDeviceHearWrong)

/-- 'laws.FnExactDeviceTick': WHATEVER THE INPUT: true; the input reads as it did. -/
def fnExactDeviceTickSpec : ChangeSpec := { name := "fnExactDeviceTick", fn := fun _ => fun
  | [d] => { results := [.lit (.bool true)], args := [d] }
  | _ => none }
def fnExactDeviceTickRow : OpenClaim := { program := "ytdhmcepnmbchkaa", sum := "1e949f7df28b33506a24de91e3549c4bec1b02881caf6ab5d8b412d339c39922", func := "loop.example/g00628/laws.FnExactDeviceTick", spec := "fnExactDeviceTick", unfollowed := true, recurses := true, apart := false }
def FnExactDeviceTickSaid : Prop := fnExactDeviceTickRow.holds Try.pinned (OpenSpec.ofChange fnExactDeviceTickSpec)

/-- ITS FALSE NEIGHBOUR: 'it returns false'. Refute it at one input. -/
def fnExactDeviceTickWrong : ChangeSpec := { name := "fnExactDeviceTick", fn := fun _ => fun
  | [d] => { results := [.lit (.bool false)], args := [d] }
  | _ => none }
def FnExactDeviceTickWrongFalsely : Prop := fnExactDeviceTickRow.holds Try.pinned (OpenSpec.ofChange fnExactDeviceTickWrong)

/-- 'laws.FnExactAddrOf': WHATEVER THE INPUT: true; the input reads as it did. -/
def fnExactAddrOfSpec : ChangeSpec := { name := "fnExactAddrOf", fn := fun _ => fun
  | [d1, d2] => { results := [.lit (.bool true)], args := [d1, d2] }
  | _ => none }
def fnExactAddrOfRow : OpenClaim := { program := "ytdhmcepnmbchkaa", sum := "1e949f7df28b33506a24de91e3549c4bec1b02881caf6ab5d8b412d339c39922", func := "loop.example/g00628/laws.FnExactAddrOf", spec := "fnExactAddrOf", unfollowed := true, recurses := true, apart := false }
def FnExactAddrOfSaid : Prop := fnExactAddrOfRow.holds Try.pinned (OpenSpec.ofChange fnExactAddrOfSpec)

/-- ITS FALSE NEIGHBOUR: 'it returns false'. Refute it at one input. -/
def fnExactAddrOfWrong : ChangeSpec := { name := "fnExactAddrOf", fn := fun _ => fun
  | [d1, d2] => { results := [.lit (.bool false)], args := [d1, d2] }
  | _ => none }
def FnExactAddrOfWrongFalsely : Prop := fnExactAddrOfRow.holds Try.pinned (OpenSpec.ofChange fnExactAddrOfWrong)

/-- 'laws.FnExactPickerRight': WHATEVER THE INPUT: true; the input reads as it did. -/
def fnExactPickerRightSpec : ChangeSpec := { name := "fnExactPickerRight", fn := fun _ => fun
  | [d] => { results := [.lit (.bool true)], args := [d] }
  | _ => none }
def fnExactPickerRightRow : OpenClaim := { program := "ytdhmcepnmbchkaa", sum := "1e949f7df28b33506a24de91e3549c4bec1b02881caf6ab5d8b412d339c39922", func := "loop.example/g00628/laws.FnExactPickerRight", spec := "fnExactPickerRight", apart := false }
def FnExactPickerRightSaid : Prop := fnExactPickerRightRow.holds Try.pinned (OpenSpec.ofChange fnExactPickerRightSpec)

/-- ITS FALSE NEIGHBOUR: 'it returns false'. Refute it at one input. -/
def fnExactPickerRightWrong : ChangeSpec := { name := "fnExactPickerRight", fn := fun _ => fun
  | [d] => { results := [.lit (.bool false)], args := [d] }
  | _ => none }
def FnExactPickerRightWrongFalsely : Prop := fnExactPickerRightRow.holds Try.pinned (OpenSpec.ofChange fnExactPickerRightWrong)

/-- 'laws.FnExactPickHear': WHATEVER THE INPUT: true; the input reads as it did. -/
def fnExactPickHearSpec : ChangeSpec := { name := "fnExactPickHear", fn := fun _ => fun
  | [d1, d2, d3] => { results := [.lit (.bool true)], args := [d1, d2, d3] }
  | _ => none }
def fnExactPickHearRow : OpenClaim := { program := "ytdhmcepnmbchkaa", sum := "1e949f7df28b33506a24de91e3549c4bec1b02881caf6ab5d8b412d339c39922", func := "loop.example/g00628/laws.FnExactPickHear", spec := "fnExactPickHear", inPlace := ["slices.overlaps[loop.example/g00628/impl.Heard]"], unfollowed := true, recurses := true, apart := false }
def FnExactPickHearSaid : Prop := fnExactPickHearRow.holds Try.pinned (OpenSpec.ofChange fnExactPickHearSpec)

/-- ITS FALSE NEIGHBOUR: 'it returns false'. Refute it at one input. -/
def fnExactPickHearWrong : ChangeSpec := { name := "fnExactPickHear", fn := fun _ => fun
  | [d1, d2, d3] => { results := [.lit (.bool false)], args := [d1, d2, d3] }
  | _ => none }
def FnExactPickHearWrongFalsely : Prop := fnExactPickHearRow.holds Try.pinned (OpenSpec.ofChange fnExactPickHearWrong)

/-- 'laws.FnExactPickTick': WHATEVER THE INPUT: true; the input reads as it did. -/
def fnExactPickTickSpec : ChangeSpec := { name := "fnExactPickTick", fn := fun _ => fun
  | [d] => { results := [.lit (.bool true)], args := [d] }
  | _ => none }
def fnExactPickTickRow : OpenClaim := { program := "ytdhmcepnmbchkaa", sum := "1e949f7df28b33506a24de91e3549c4bec1b02881caf6ab5d8b412d339c39922", func := "loop.example/g00628/laws.FnExactPickTick", spec := "fnExactPickTick", apart := false }
def FnExactPickTickSaid : Prop := fnExactPickTickRow.holds Try.pinned (OpenSpec.ofChange fnExactPickTickSpec)

/-- ITS FALSE NEIGHBOUR: 'it returns false'. Refute it at one input. -/
def fnExactPickTickWrong : ChangeSpec := { name := "fnExactPickTick", fn := fun _ => fun
  | [d] => { results := [.lit (.bool false)], args := [d] }
  | _ => none }
def FnExactPickTickWrongFalsely : Prop := fnExactPickTickRow.holds Try.pinned (OpenSpec.ofChange fnExactPickTickWrong)

/- THE SECOND FORM. 'bulk': how many values and letters a reading holds, each counted each time it is reached (what is shared counts as often as it is met; a slice's spare places count too). A statement '..UptoSaid' is the law's where the arguments, and the package variables that the reading takes, are together of bulk at most 1048576: NARROWER than '..Said'. Prove '..Said' where nothing that the law and all that it calls make is longer than what came in: it says more and counts as full. Else prove '..UptoSaid'. A law counts once. -/
mutual
def uptoBulk {H : Type} : DataW H → Nat
  | .lit (.string bytes) => bytes.length + 1
  | .lit _ => 1
  | .nil => 1
  | .ptr d => uptoBulk d + 1
  | .slice elems spare => uptoBulkAll elems + uptoBulkAll spare + 1
  | .agg parts => uptoBulkAll parts + 1
  | .iface _ d => uptoBulk d + 1
  | .map entries => uptoBulkEntries entries + 1
  | .held _ => 1
def uptoBulkAll {H : Type} : List (DataW H) → Nat
  | [] => 0
  | d :: r => uptoBulk d + uptoBulkAll r
def uptoBulkEntries {H : Type} : List (Lit × DataW H) → Nat
  | [] => 0
  | x :: r => uptoBulkEntry x + uptoBulkEntries r
def uptoBulkEntry {H : Type} : Lit × DataW H → Nat
  | (.string bytes, d) => bytes.length + uptoBulk d + 1
  | (_, d) => uptoBulk d + 1
 end
def uptoSmall : (H : Type) → List (DataW H) → Bool := fun _ ds => decide (uptoBulkAll ds ≤ 1048576)
def OpenSpec.upto (s : _root_.Go.ChangeSpec) : _root_.Go.OpenSpec := { _root_.Go.OpenSpec.ofChange s with cond := some uptoSmall }

/-- 'laws.FnClaim', WHERE WHAT IT READS IS OF BULK AT MOST 1048576: true; the input reads as it did. -/
def fnClaimUptoRow : OpenClaim := { program := "ytdhmcepnmbchkaa", sum := "1e949f7df28b33506a24de91e3549c4bec1b02881caf6ab5d8b412d339c39922", func := "loop.example/g00628/laws.FnClaim", spec := "fnClaim", inPlace := ["slices.overlaps[int64]"], apart := false, narrowed := true }
def FnClaimUptoSaid : Prop := fnClaimUptoRow.holds Try.pinned (OpenSpec.upto fnClaimSpec)

/-- 'laws.FnExactDevicesRight', WHERE WHAT IT READS IS OF BULK AT MOST 1048576: true; the input reads as it did. -/
def fnExactDevicesRightUptoRow : OpenClaim := { program := "ytdhmcepnmbchkaa", sum := "1e949f7df28b33506a24de91e3549c4bec1b02881caf6ab5d8b412d339c39922", func := "loop.example/g00628/laws.FnExactDevicesRight", spec := "fnExactDevicesRight", apart := false, narrowed := true }
def FnExactDevicesRightUptoSaid : Prop := fnExactDevicesRightUptoRow.holds Try.pinned (OpenSpec.upto fnExactDevicesRightSpec)

/-- 'laws.FnExactDeviceHear', WHERE WHAT IT READS IS OF BULK AT MOST 1048576: true; the input reads as it did. -/
def fnExactDeviceHearUptoRow : OpenClaim := { program := "ytdhmcepnmbchkaa", sum := "1e949f7df28b33506a24de91e3549c4bec1b02881caf6ab5d8b412d339c39922", func := "loop.example/g00628/laws.FnExactDeviceHear", spec := "fnExactDeviceHear", inPlace := ["slices.overlaps[loop.example/g00628/impl.Device]"], unfollowed := true, recurses := true, apart := false, narrowed := true }
def FnExactDeviceHearUptoSaid : Prop := fnExactDeviceHearUptoRow.holds Try.pinned (OpenSpec.upto fnExactDeviceHearSpec)

/-- 'laws.FnExactDeviceTick', WHERE WHAT IT READS IS OF BULK AT MOST 1048576: true; the input reads as it did. -/
def fnExactDeviceTickUptoRow : OpenClaim := { program := "ytdhmcepnmbchkaa", sum := "1e949f7df28b33506a24de91e3549c4bec1b02881caf6ab5d8b412d339c39922", func := "loop.example/g00628/laws.FnExactDeviceTick", spec := "fnExactDeviceTick", unfollowed := true, recurses := true, apart := false, narrowed := true }
def FnExactDeviceTickUptoSaid : Prop := fnExactDeviceTickUptoRow.holds Try.pinned (OpenSpec.upto fnExactDeviceTickSpec)

/-- 'laws.FnExactAddrOf', WHERE WHAT IT READS IS OF BULK AT MOST 1048576: true; the input reads as it did. -/
def fnExactAddrOfUptoRow : OpenClaim := { program := "ytdhmcepnmbchkaa", sum := "1e949f7df28b33506a24de91e3549c4bec1b02881caf6ab5d8b412d339c39922", func := "loop.example/g00628/laws.FnExactAddrOf", spec := "fnExactAddrOf", unfollowed := true, recurses := true, apart := false, narrowed := true }
def FnExactAddrOfUptoSaid : Prop := fnExactAddrOfUptoRow.holds Try.pinned (OpenSpec.upto fnExactAddrOfSpec)

/-- 'laws.FnExactPickerRight', WHERE WHAT IT READS IS OF BULK AT MOST 1048576: true; the input reads as it did. -/
def fnExactPickerRightUptoRow : OpenClaim := { program := "ytdhmcepnmbchkaa", sum := "1e949f7df28b33506a24de91e3549c4bec1b02881caf6ab5d8b412d339c39922", func := "loop.example/g00628/laws.FnExactPickerRight", spec := "fnExactPickerRight", apart := false, narrowed := true }
def FnExactPickerRightUptoSaid : Prop := fnExactPickerRightUptoRow.holds Try.pinned (OpenSpec.upto fnExactPickerRightSpec)

/-- 'laws.FnExactPickHear', WHERE WHAT IT READS IS OF BULK AT MOST 1048576: true; the input reads as it did. -/
def fnExactPickHearUptoRow : OpenClaim := { program := "ytdhmcepnmbchkaa", sum := "1e949f7df28b33506a24de91e3549c4bec1b02881caf6ab5d8b412d339c39922", func := "loop.example/g00628/laws.FnExactPickHear", spec := "fnExactPickHear", inPlace := ["slices.overlaps[loop.example/g00628/impl.Heard]"], unfollowed := true, recurses := true, apart := false, narrowed := true }
def FnExactPickHearUptoSaid : Prop := fnExactPickHearUptoRow.holds Try.pinned (OpenSpec.upto fnExactPickHearSpec)

/-- 'laws.FnExactPickTick', WHERE WHAT IT READS IS OF BULK AT MOST 1048576: true; the input reads as it did. -/
def fnExactPickTickUptoRow : OpenClaim := { program := "ytdhmcepnmbchkaa", sum := "1e949f7df28b33506a24de91e3549c4bec1b02881caf6ab5d8b412d339c39922", func := "loop.example/g00628/laws.FnExactPickTick", spec := "fnExactPickTick", apart := false, narrowed := true }
def FnExactPickTickUptoSaid : Prop := fnExactPickTickUptoRow.holds Try.pinned (OpenSpec.upto fnExactPickTickSpec)

end Rows
end Go.Proofs.Ytdhmcepnmbchkaa
