/- Short forms for the laws over tables of Sessions. -/
import Derived.Test.YtioldepgoodipaaGreatSesMark
import Derived.Test.YtioldepgoodipaaGreatOpenSe
namespace Go.Proofs.YtioldepgoodipaaGreat
open Go.RowKit
set_option linter.unusedVariables false
theorem toSes_new (a : Option Addr) (cap : Nat) (l : List Se) (w : World) (h : RsIn seL 7 w a l) (hlen : l.length ≤ 1048576) :
    Calls Tryz.prog 41 #[.slice a l.length cap] w fun e w' => ∃ a', e = .returned (.slice a' l.length l.length) ∧ RsNew seL 7 159 w.heap.size w'.heap.size w' a' l ∧ Below w.heap.size w w' :=
  (toSessionS_new a cap l w h hlen).mono fun _ _ ⟨h1, h2, h3⟩ => ⟨_, h1, h2, h3⟩
theorem markSes_1 {lo hi : Nat} (a : Option Addr) (cap : Nat) (l : List Se) (w : World) (h : RsNew seL 7 159 lo hi w a l) (hk : l.length ≤ 1100000) :
    Calls Tryz.prog 59 #[.slice a l.length cap, .int .i64 1] w fun e w' => e = .returned (.int .i64 ((1 + 7 * l.length : Nat) : Int)) ∧ RsNew seL 7 159 lo hi w' a (marksSe 1 l.length) ∧ Out lo hi w w' :=
  markSessionS_any a cap l 1 w h (by omega) (by omega)
theorem heldSes_1 {lo hi : Nat} (a : Option Addr) (cap : Nat) (N : Nat) (w : World) (h : RsNew seL 7 159 lo hi w a (marksSe 1 N)) (hk : N ≤ 1100000) :
    Calls Tryz.prog 118 #[.slice a N cap, .int .i64 1] w fun e w' => e = .returned (.int .i64 ((1 + 7 * N : Nat) : Int)) ∧ Below w.heap.size w w' :=
  heldSessionS_any a cap N 1 w h (by omega) (by omega)
end Go.Proofs.YtioldepgoodipaaGreat
